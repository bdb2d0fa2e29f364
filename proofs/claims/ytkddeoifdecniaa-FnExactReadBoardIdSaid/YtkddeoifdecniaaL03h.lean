/- Contracts of chapter 3: the identifier of a board, of the program and of its model. -/
import Derived.Test.YtkddeoifdecniaaL03f
import Derived.Test.YtkddeoifdecniaaL03g
namespace Go.Proofs.Ytkddeoifdecniaa
open Go.ChangeShapes Go.WideShapes Go.ChangeAt Go.RowKit
set_option linter.unusedVariables false
set_option linter.unusedSimpArgs false

theorem bitsL_bin : ∀ xs : List Int, Bin (bitsL xs)
  | [] => fun x hx => by simp [bitsL] at hx
  | x :: xs => by
    rw [bitsL_cons]
    refine Bin.append (fun y hy => ?_) (bitsL_bin xs)
    simp only [grpL, List.mem_append, List.mem_replicate, List.mem_singleton] at hy
    rcases hy with ⟨_, rfl⟩ | rfl
    · exact .inr rfl
    · exact .inl rfl
def biS (p c h s : Int) (xs ys : List Int) : List UInt8 := if isB p c h s xs ys = true then idS (bitsL xs ++ bitsL ys) else []
set_option maxHeartbeats 1000000 in
theorem boardId_any (p c h s : Int) (a1 a2 : Option Addr) (n1 n2 c1 c2 : Nat) (xs ys : List Int) (w : World) (h1 : xs.length = n1) (h2 : ys.length = n2) (l1 : n1 ≤ 1048576) (l2 : n2 ≤ 1048576) (r1 : IRow w a1 xs) (r2 : IRow w a2 ys) :
    Calls Try.prog 34 #[.agg #[.int .i64 p, .int .i64 c, .int .i64 h, .int .i64 s], .agg #[.slice a1 n1 c1, .slice a2 n2 c2]] w fun e w' => e = .returned (.string ⟨(biS p c h s xs ys).toArray⟩) ∧ Below w.heap.size w w' := by
  obtain ⟨BV, BB, hb, hz⟩ := two_new w #[.int .i64 p, .int .i64 c, .int .i64 h, .int .i64 s] #[.slice a1 n1 c1, .slice a2 n2 c2] 25 28
  have hz1 : w.heap.size + 1 < ((w.alloc (.cells #[.int .i64 p, .int .i64 c, .int .i64 h, .int .i64 s] 25)).alloc (.cells #[.slice a1 n1 c1, .slice a2 n2 c2] 28)).heap.size := by rw [hz]; omega
  clear hz
  obtain ⟨x0, x1, x2, x3, xf, xl⟩ := BV.four
  obtain ⟨y0, y1, yf, yl⟩ := BB.two
  by_cases g : isB p c h s xs ys = true
  · rw [biS, if_pos g]
    obtain ⟨⟨f1, f2, f3⟩, ⟨f4, f5, f6⟩, f7, f8⟩ := isB_fit g
    have hK := fun W (q1 : IRow W a1 xs) (q2 : IRow W a2 ys) => bits_any a1 a2 n1 n2 c1 c2 xs ys W h1 h2 (by omega) (by omega) (by omega) (by omega) f3 f6 (by omega) (by omega) q1 q2
    have hbin := (bitsL_bin xs).append (bitsL_bin ys)
    have hlen : (bitsL xs ++ bitsL ys).length ≤ 80 := by simp; omega
    obtain ⟨zs, hzs⟩ : ∃ zs, bitsL xs ++ bitsL ys = zs := ⟨_, rfl⟩
    rw [hzs] at hK hbin hlen ⊢
    have hT := fun (a : Option Addr) (k : Nat) W (q : IRow W a zs) => idText_any a zs.length k zs W rfl (by omega) hbin q
    obtain ⟨T, hTe⟩ : ∃ T : ByteArray, ⟨(idS zs).toArray⟩ = T := ⟨_, rfl⟩
    rw [hTe] at hT ⊢
    have HK := Lib.hid hK
    have HT := Lib.hid hT
    clear hK hT hTe hzs hbin hlen f1 f2 f3 f4 f5 f6 f7 f8
    have hB := fun W (q1 : IRow W a1 xs) (q2 : IRow W a2 ys) => isBoard_any p c h s a1 a2 n1 n2 c1 c2 xs ys W h1 h2 l1 l2 q1 q2
    simp only [g] at hB
    have HB := Lib.hid hB
    clear hB
    go_enter Try.func34, Try.ntmps34
    go_wp2_with (first | (go_at_call 16; refine (HB.out _ (r1.below hb) (r2.below hb)).mono ?_; rintro e w1 ⟨rfl, hb1⟩; obtain ⟨x0, x1, x2, x3, xf, xl⟩ := (BV.below hb1).four; obtain ⟨y0, y1, yf, yl⟩ := (BB.below hb1).two) | (go_at_call 74; refine (HK.out _ (r1.below (chain hb hb1)) (r2.below (chain hb hb1))).mono ?_; rintro e w2 ⟨ga, gk, rfl, hO, hb2⟩) | (go_at_call 73; refine (HT.out _ _ _ hO.irow).mono ?_; rintro e w3 ⟨rfl, hb3⟩))
    go_ret
    have hbb := chain hb hb1
    exact ⟨rfl, chain (chain hbb hb2) hb3⟩
  · rw [biS, if_neg g]
    replace g : isB p c h s xs ys = false := by simpa using g
    have hB := fun W (q1 : IRow W a1 xs) (q2 : IRow W a2 ys) => isBoard_any p c h s a1 a2 n1 n2 c1 c2 xs ys W h1 h2 l1 l2 q1 q2
    simp only [g] at hB
    have HB := Lib.hid hB
    clear hB
    go_enter Try.func34, Try.ntmps34
    go_wp2_with (go_at_call 16; refine (HB.out _ (r1.below hb) (r2.below hb)).mono ?_; rintro e w1 ⟨rfl, hb1⟩; obtain ⟨x0, x1, x2, x3, xf, xl⟩ := (BV.below hb1).four; obtain ⟨y0, y1, yf, yl⟩ := (BB.below hb1).two)
    go_ret
    have hbb := chain hb hb1
    exact ⟨rfl, hbb⟩
set_option maxHeartbeats 1000000 in
theorem specBoardId_any (p c h s : Int) (a1 a2 : Option Addr) (n1 n2 c1 c2 : Nat) (xs ys : List Int) (w : World) (h1 : xs.length = n1) (h2 : ys.length = n2) (l1 : n1 ≤ 1048576) (l2 : n2 ≤ 1048576) (r1 : IRow w a1 xs) (r2 : IRow w a2 ys) :
    Calls Try.prog 35 #[.agg #[.int .i64 p, .int .i64 c, .int .i64 h, .int .i64 s], .agg #[.slice a1 n1 c1, .slice a2 n2 c2]] w fun e w' => e = .returned (.string ⟨(biS p c h s xs ys).toArray⟩) ∧ Below w.heap.size w w' := by
  obtain ⟨BV, BB, hb, hz⟩ := two_new w #[.int .i64 p, .int .i64 c, .int .i64 h, .int .i64 s] #[.slice a1 n1 c1, .slice a2 n2 c2] 25 28
  have hz1 : w.heap.size + 1 < ((w.alloc (.cells #[.int .i64 p, .int .i64 c, .int .i64 h, .int .i64 s] 25)).alloc (.cells #[.slice a1 n1 c1, .slice a2 n2 c2] 28)).heap.size := by rw [hz]; omega
  clear hz
  obtain ⟨x0, x1, x2, x3, xf, xl⟩ := BV.four
  obtain ⟨y0, y1, yf, yl⟩ := BB.two
  by_cases g : isB p c h s xs ys = true
  · rw [biS, if_pos g]
    obtain ⟨⟨f1, f2, f3⟩, ⟨f4, f5, f6⟩, f7, f8⟩ := isB_fit g
    have hK := fun W (q1 : IRow W a1 xs) (q2 : IRow W a2 ys) => l03Bits_any a1 a2 n1 n2 c1 c2 xs ys W h1 h2 (by omega) (by omega) (by omega) (by omega) f3 f6 q1 q2
    have hbin := (bitsL_bin xs).append (bitsL_bin ys)
    have hlen : (bitsL xs ++ bitsL ys).length ≤ 80 := by simp; omega
    obtain ⟨zs, hzs⟩ : ∃ zs, bitsL xs ++ bitsL ys = zs := ⟨_, rfl⟩
    rw [hzs] at hK hbin hlen ⊢
    have hT := fun (a : Option Addr) (k : Nat) W (q : IRow W a zs) => l03Id_any a zs.length k zs W rfl (by omega) hbin q
    obtain ⟨T, hTe⟩ : ∃ T : ByteArray, ⟨(idS zs).toArray⟩ = T := ⟨_, rfl⟩
    rw [hTe] at hT ⊢
    have HK := Lib.hid hK
    have HT := Lib.hid hT
    clear hK hT hTe hzs hbin hlen f1 f2 f3 f4 f5 f6 f7 f8
    have hB := fun W (q1 : IRow W a1 xs) (q2 : IRow W a2 ys) => specIsBoard_any p c h s a1 a2 n1 n2 c1 c2 xs ys W h1 h2 l1 l2 q1 q2
    simp only [g] at hB
    have HB := Lib.hid hB
    clear hB
    go_enter Try.func35, Try.ntmps35
    go_wp2_with (first | (go_at_call 15; refine (HB.out _ (r1.below hb) (r2.below hb)).mono ?_; rintro e w1 ⟨rfl, hb1⟩; obtain ⟨x0, x1, x2, x3, xf, xl⟩ := (BV.below hb1).four; obtain ⟨y0, y1, yf, yl⟩ := (BB.below hb1).two) | (go_at_call 76; refine (HK.out _ (r1.below (chain hb hb1)) (r2.below (chain hb hb1))).mono ?_; rintro e w2 ⟨ga, gk, rfl, hO, hb2⟩) | (go_at_call 75; refine (HT.out _ _ _ hO.irow).mono ?_; rintro e w3 ⟨rfl, rfl⟩))
    go_ret
    have hbb := chain hb hb1
    exact ⟨rfl, chain hbb hb2⟩
  · rw [biS, if_neg g]
    replace g : isB p c h s xs ys = false := by simpa using g
    have hB := fun W (q1 : IRow W a1 xs) (q2 : IRow W a2 ys) => specIsBoard_any p c h s a1 a2 n1 n2 c1 c2 xs ys W h1 h2 l1 l2 q1 q2
    simp only [g] at hB
    have HB := Lib.hid hB
    clear hB
    go_enter Try.func35, Try.ntmps35
    go_wp2_with (go_at_call 15; refine (HB.out _ (r1.below hb) (r2.below hb)).mono ?_; rintro e w1 ⟨rfl, hb1⟩; obtain ⟨x0, x1, x2, x3, xf, xl⟩ := (BV.below hb1).four; obtain ⟨y0, y1, yf, yl⟩ := (BB.below hb1).two)
    go_ret
    have hbb := chain hb hb1
    exact ⟨rfl, hbb⟩
end Go.Proofs.Ytkddeoifdecniaa
