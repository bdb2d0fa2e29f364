/- Contracts of chapter 3: the board with some bits, of the program and of its model. -/
import Derived.Test.YtkddeoifdecniaaL03j
namespace Go.Proofs.Ytkddeoifdecniaa
open Go.ChangeShapes Go.WideShapes Go.ChangeAt Go.RowKit
set_option linter.unusedVariables false
set_option linter.unusedSimpArgs false

theorem OBd.mono {lo hi lo' hi' : Nat} {w : World} {a1 a2 : Option Addr} {xs ys : List Int} (h : OBd lo hi w a1 a2 xs ys) (h1 : lo' ≤ lo) (h2 : hi ≤ hi') : OBd lo' hi' w a1 a2 xs ys := by
  rcases h with h | ⟨g1, g2, e1, e2, hne, b1, b2, b3, b4, r1, r2⟩
  · exact .inl h
  · exact .inr ⟨g1, g2, e1, e2, hne, by omega, by omega, by omega, by omega, r1, r2⟩
/-- The number of places of a side. -/
abbrev zOf (p : Int) : Nat := (p + 1).toNat
def cX (p : Int) (bs : List Int) : List Int := (cib 0 bs).take (zOf p)
def cY (p : Int) (bs : List Int) : List Int := ((cib 0 bs).drop (zOf p)).take (zOf p)
/-- Bits are those of a valid board. -/
def okBits (p c h s : Int) (bs : List Int) : Bool := decide (trl 0 bs = 0 ∧ (cib 0 bs).length = 2 * zOf p) && isB p c h s (cX p bs) (cY p bs)
def inBits (bs : List Int) : Bool := decide (bs.length ≤ 80) && binB bs
def bobOk (p c h s : Int) (bs : List Int) : Bool := vB p c h s && (inBits bs && okBits p c h s bs)
def bobE (p c h s : Int) (bs : List Int) : Int := if vB p c h s = true then (if inBits bs = true then (if okBits p c h s bs = true then 0 else 4) else 2) else 1
def bobX (p c h s : Int) (bs : List Int) : List Int := if bobOk p c h s bs = true then cX p bs else []
def bobY (p c h s : Int) (bs : List Int) : List Int := if bobOk p c h s bs = true then cY p bs else []
theorem cXY (p : Int) (bs : List Int) (h : (cib 0 bs).length = 2 * zOf p) : cX p bs ++ cY p bs = cib 0 bs := by
  unfold cX cY
  rw [List.take_of_length_le (l := (cib 0 bs).drop (zOf p)) (by simp; omega), List.take_append_drop]
theorem cXY_bits {p : Int} {bs : List Int} (hb : Bin bs) (hl : 2 * zOf p ≤ (cib 0 bs).length) : (bitsL (cX p bs) ++ bitsL (cY p bs) = bs) ↔ (trl 0 bs = 0 ∧ (cib 0 bs).length = 2 * zOf p) := by
  have hfull := bits_cib 0 bs hb
  rw [List.replicate_zero, List.nil_append] at hfull
  constructor
  · intro h
    rw [← bitsL_append] at h
    have hnn : ∀ x ∈ cX p bs ++ cY p bs, 0 ≤ x := fun x hx => by
      rcases List.mem_append.1 hx with hx | hx
      · exact cib_nonneg 0 bs x (List.mem_of_mem_take hx)
      · exact cib_nonneg 0 bs x (List.mem_of_mem_drop (List.mem_of_mem_take hx))
    have h1 := cib_bits (cX p bs ++ cY p bs) [] hnn
    have h2 := trl_bits (cX p bs ++ cY p bs) []
    rw [List.append_nil, h] at h1 h2
    refine ⟨h2, ?_⟩
    have h3 := congrArg List.length h1
    simp only [cib, List.append_nil, List.length_append] at h3
    have e1 : (cX p bs).length = zOf p := by simp [cX]; omega
    have e2 : (cY p bs).length = zOf p := by simp [cY]; omega
    omega
  · intro ⟨h1, h2⟩
    rw [← bitsL_append, cXY p bs h2]
    rw [h1, List.replicate_zero, List.append_nil] at hfull
    exact hfull.symm
set_option maxRecDepth 8000 in
set_option maxHeartbeats 2000000 in
theorem boardOfBits_any (p c h s : Int) (a : Option Addr) (n cap : Nat) (bs : List Int) (w : World) (hn : bs.length = n) (hle : n ≤ 1048576) (hr : IRow w a bs) :
    Calls Try.prog 37 #[.agg #[.int .i64 p, .int .i64 c, .int .i64 h, .int .i64 s], .slice a n cap] w (BoardGot2 (bobX p c h s bs) (bobY p c h s bs) (.int .i64 (bobE p c h s bs)) w) := by
  have BV := Blk.new w #[.int .i64 p, .int .i64 c, .int .i64 h, .int .i64 s] 25
  have hb1 : Below w.heap.size w (w.alloc (.cells #[.int .i64 p, .int .i64 c, .int .i64 h, .int .i64 s] 25)) := (Below.refl _ _).alloc (Nat.le_refl _) _
  have BR := Blk.new (w.alloc (.cells #[.int .i64 p, .int .i64 c, .int .i64 h, .int .i64 s] 25)) #[.slice none 0 0, .slice none 0 0] 28
  have hz1 : (w.alloc (.cells #[.int .i64 p, .int .i64 c, .int .i64 h, .int .i64 s] 25)).heap.size = w.heap.size + 1 := by simp
  rw [hz1] at BR
  replace BV := BV.alloc (.cells #[.slice none 0 0, .slice none 0 0] 28)
  have hbw := hb1.alloc hb1.size (.cells #[.slice none 0 0, .slice none 0 0] 28)
  clear hz1 hb1
  have hV := fun W => valid_any p c h s W
  by_cases g : vB p c h s = true
  rotate_left
  · rw [show bobX p c h s bs = [] by rw [bobX, if_neg (by simp [bobOk, g])], show bobY p c h s bs = [] by rw [bobY, if_neg (by simp [bobOk, g])], bobE, if_neg g]
    replace g : vB p c h s = false := by simpa using g
    rw [g] at hV
    have HV := Lib.hid hV
    clear hV
    go_enter Try.func37, Try.ntmps37
    obtain ⟨x0, x1, x2, x3, xf, xl⟩ := BV.four
    go_wp2_with fail
    generalize ((w.alloc (.cells #[.int .i64 p, .int .i64 c, .int .i64 h, .int .i64 s] 25)).alloc (.cells #[.slice none 0 0, .slice none 0 0] 28)) = v0 at *
    clear x0 x1 x2 x3 xf xl
    refine (HV.out _).mono ?_
    rintro e w1 ⟨rfl, hb1⟩
    replace BV := BV.below hb1
    replace BR := BR.below hb1
    have hz_hb1 := hb1.size
    replace hbw := chain hbw hb1
    clear hb1
    obtain ⟨y0, y1, yf, yl⟩ := BR.two
    go_wp2_with fail
    have BRn := (BR.set (i := 0) (.slice none 0 0)).set (i := 1) (.slice none 0 0)
    obtain ⟨z0, z1, zf, zl⟩ := BRn.two
    refine bodyPost_ret (v := .tuple #[.agg #[.slice none 0 0, .slice none 0 0], .int .i64 1]) (by simp [results, Try.results37, go_sem, z0, z1]) rfl ?_
    exact ⟨none, none, 0, 0, rfl, .inl ⟨rfl, rfl, rfl, rfl⟩, below2 BR hbw (by omega)⟩
  rw [g] at hV
  have HV := Lib.hid hV
  have hv := vB_iff.1 g
  by_cases i80 : n ≤ 80
  rotate_left
  · have e0 : inBits bs = false := by simp [inBits]; omega
    rw [show bobX p c h s bs = [] by rw [bobX, if_neg (by simp [bobOk, e0])], show bobY p c h s bs = [] by rw [bobY, if_neg (by simp [bobOk, e0])], bobE, if_pos g, e0, if_neg (by simp)]
    have hn80 : ¬ (n : Int) ≤ 80 := by omega
    clear hV e0 hv g
    go_enter Try.func37, Try.ntmps37
    obtain ⟨x0, x1, x2, x3, xf, xl⟩ := BV.four
    go_wp2_with fail
    generalize ((w.alloc (.cells #[.int .i64 p, .int .i64 c, .int .i64 h, .int .i64 s] 25)).alloc (.cells #[.slice none 0 0, .slice none 0 0] 28)) = v0 at *
    clear x0 x1 x2 x3 xf xl
    refine (HV.out _).mono ?_
    rintro e w1 ⟨rfl, hb1⟩
    replace BV := BV.below hb1
    replace BR := BR.below hb1
    have hz_hb1 := hb1.size
    replace hbw := chain hbw hb1
    clear hb1
    obtain ⟨y0, y1, yf, yl⟩ := BR.two
    go_wp2_with fail
    have BRn := (BR.set (i := 0) (.slice none 0 0)).set (i := 1) (.slice none 0 0)
    obtain ⟨z0, z1, zf, zl⟩ := BRn.two
    refine bodyPost_ret (v := .tuple #[.agg #[.slice none 0 0, .slice none 0 0], .int .i64 2]) (by simp [results, Try.results37, go_sem, z0, z1]) rfl ?_
    exact ⟨none, none, 0, 0, rfl, .inl ⟨rfl, rfl, rfl, rfl⟩, below2 BR hbw (by omega)⟩
  have hn80 : (n : Int) ≤ 80 := by omega
  have h80b : decide ((80 : Int) < (n : Int)) = false := by rw [decide_eq_false_iff_not]; omega
  have h80c : decide (80 < n) = false := by rw [decide_eq_false_iff_not]; omega
  have hH := fun W (q : IRow W a bs) => hasOnlyBits_any a n cap bs W hn hle q
  by_cases b : binB bs = true
  rotate_left
  · replace b : binB bs = false := by simpa using b
    have e0 : inBits bs = false := by simp [inBits, b]
    rw [show bobX p c h s bs = [] by rw [bobX, if_neg (by simp [bobOk, e0])], show bobY p c h s bs = [] by rw [bobY, if_neg (by simp [bobOk, e0])], bobE, if_pos g, e0, if_neg (by simp)]
    rw [b] at hH
    have HH := Lib.hid hH
    clear hV e0 hv g hH b
    go_enter Try.func37, Try.ntmps37
    obtain ⟨x0, x1, x2, x3, xf, xl⟩ := BV.four
    go_wp2_with fail
    generalize ((w.alloc (.cells #[.int .i64 p, .int .i64 c, .int .i64 h, .int .i64 s] 25)).alloc (.cells #[.slice none 0 0, .slice none 0 0] 28)) = v0 at *
    clear x0 x1 x2 x3 xf xl
    refine (HV.out _).mono ?_
    rintro e w1 ⟨rfl, hb1⟩
    replace BV := BV.below hb1
    replace BR := BR.below hb1
    have hz_hb1 := hb1.size
    replace hbw := chain hbw hb1
    clear hb1
    go_wp2_with fail
    refine (HH.out _ (hr.below hbw)).mono ?_
    rintro e w2 ⟨rfl, rfl⟩
    obtain ⟨y0, y1, yf, yl⟩ := BR.two
    go_wp2_with fail
    have BRn := (BR.set (i := 0) (.slice none 0 0)).set (i := 1) (.slice none 0 0)
    obtain ⟨z0, z1, zf, zl⟩ := BRn.two
    refine bodyPost_ret (v := .tuple #[.agg #[.slice none 0 0, .slice none 0 0], .int .i64 2]) (by simp [results, Try.results37, go_sem, z0, z1]) rfl ?_
    exact ⟨none, none, 0, 0, rfl, .inl ⟨rfl, rfl, rfl, rfl⟩, below2 BR hbw (by omega)⟩
  rw [b] at hH
  have HH := Lib.hid hH
  have e0 : inBits bs = true := by simp [inBits, b]; omega
  have hbin := binB_iff.1 b
  have eE : bobE p c h s bs = if okBits p c h s bs = true then 0 else 4 := by rw [bobE, if_pos g, if_pos e0]
  have eO : bobOk p c h s bs = okBits p c h s bs := by simp [bobOk, g, e0]
  rw [bobX, bobY, eE, eO]
  have hzP : zOf p = p.toNat + 1 := by unfold zOf; omega
  have hBI : (2 * zOf p ≤ (cib 0 bs).length → ∀ W, IRow W a bs → Calls Try.prog 78 #[.agg #[.int .i64 p, .int .i64 c, .int .i64 h, .int .i64 s], .slice a n cap] W (BoardGot2 (cX p bs) (cY p bs) (.bool (isB p c h s (cX p bs) (cY p bs))) W)) ∧
      ((cib 0 bs).length < 2 * zOf p → ∀ W, IRow W a bs → Calls Try.prog 78 #[.agg #[.int .i64 p, .int .i64 c, .int .i64 h, .int .i64 s], .slice a n cap] W (BoardGot2 [] [] (.bool false) W)) := by
    have q := fun W (hq : IRow W a bs) => boardInBits_any p.toNat c h s a n cap bs (cib 0 bs) (cX p bs) (cY p bs) (zOf p) W hn (by omega) rfl hzP (by omega) rfl rfl hq
    rw [show ((p.toNat : Nat) : Int) = p by omega] at q
    exact ⟨fun hl W hq => (q W hq).1 hl, fun hl W hq => (q W hq).2 hl⟩
  clear hV hH e0 eE eO b hzP
  by_cases hl : 2 * zOf p ≤ (cib 0 bs).length
  rotate_left
  · have e1 : okBits p c h s bs = false := by
      simp [okBits]
      intro _ h2
      omega
    rw [e1, if_neg (by simp), if_neg (by simp), if_neg (by simp)]
    have hb2 := hBI.2 (by omega)
    have HB := Lib.hid hb2
    clear hb2 hBI e1 hl hv g hbin
    go_enter Try.func37, Try.ntmps37
    obtain ⟨x0, x1, x2, x3, xf, xl⟩ := BV.four
    go_wp2_with fail
    generalize ((w.alloc (.cells #[.int .i64 p, .int .i64 c, .int .i64 h, .int .i64 s] 25)).alloc (.cells #[.slice none 0 0, .slice none 0 0] 28)) = v0 at *
    clear x0 x1 x2 x3 xf xl
    refine (HV.out _).mono ?_
    rintro e w1 ⟨rfl, hb1⟩
    replace BV := BV.below hb1
    replace BR := BR.below hb1
    have hz_hb1 := hb1.size
    replace hbw := chain hbw hb1
    clear hb1
    obtain ⟨x0, x1, x2, x3, xf, xl⟩ := BV.four
    go_wp2_with fail
    refine (HH.out _ (hr.below hbw)).mono ?_
    rintro e w2 ⟨rfl, rfl⟩
    go_wp2_with fail
    clear x0 x1 x2 x3 xf xl
    refine (HB.out _ (hr.below hbw)).mono ?_
    rintro e w3 ⟨a1, a2, k1, k2, rfl, hO, hb3⟩
    clear hO
    replace BV := BV.below hb3
    replace BR := BR.below hb3
    have hz_hb3 := hb3.size
    replace hbw := chain hbw hb3
    clear hb3
    obtain ⟨y0, y1, yf, yl⟩ := BR.two
    go_wp2_with fail
    have BRn := ((BR.set (i := 0) (.slice none 0 0)).set (i := 1) (.slice none 0 0))
    have hbe := below2 (v0 := .slice none 0 0) (v1 := .slice none 0 0) BR hbw (by omega)
    have BRa := fun o => BRn.alloc o
    have z01 := fun o => (BRa o).two
    refine bodyPost_ret (v := .tuple #[.agg #[.slice none 0 0, .slice none 0 0], .int .i64 4]) (by simp [results, Try.results37, go_sem, (z01 _).1, (z01 _).2.1]) rfl ?_
    exact ⟨none, none, 0, 0, rfl, .inl ⟨rfl, rfl, rfl, rfl⟩, hbe.alloc hbe.size _⟩
  · have hb2 := hBI.1 hl
    obtain ⟨R, hR⟩ : ∃ R, isB p c h s (cX p bs) (cY p bs) = R := ⟨_, rfl⟩
    have hlX : (cX p bs).length = zOf p := by simp [cX]; omega
    have hlY : (cY p bs).length = zOf p := by simp [cY]; omega
    have hz0 : 0 < zOf p ∧ zOf p ≤ 25 := by unfold zOf; omega
    rw [hR] at hb2
    cases R with
    | false =>
      have e1 : okBits p c h s bs = false := by simp [okBits, hR]
      rw [e1, if_neg (by simp), if_neg (by simp), if_neg (by simp)]
      have HB := Lib.hid hb2
      clear hb2 hBI e1 hl hv g hbin hR hlX hlY
      go_enter Try.func37, Try.ntmps37
      obtain ⟨x0, x1, x2, x3, xf, xl⟩ := BV.four
      go_wp2_with fail
      have hvA : w.heap.size + 1 < ((w.alloc (.cells #[.int .i64 p, .int .i64 c, .int .i64 h, .int .i64 s] 25)).alloc (.cells #[.slice none 0 0, .slice none 0 0] 28)).heap.size := BR.lt
      generalize ((w.alloc (.cells #[.int .i64 p, .int .i64 c, .int .i64 h, .int .i64 s] 25)).alloc (.cells #[.slice none 0 0, .slice none 0 0] 28)) = vA at *
      clear x0 x1 x2 x3 xf xl
      refine (HV.out _).mono ?_
      rintro e w1 ⟨rfl, hb1⟩
      replace BV := BV.below hb1
      replace BR := BR.below hb1
      have hz_hb1 := hb1.size
      replace hbw := chain hbw hb1
      clear hb1
      obtain ⟨x0, x1, x2, x3, xf, xl⟩ := BV.four
      go_wp2_with fail
      refine (HH.out _ (hr.below hbw)).mono ?_
      rintro e w2 ⟨rfl, rfl⟩
      go_wp2_with fail
      clear x0 x1 x2 x3 xf xl
      refine (HB.out _ (hr.below hbw)).mono ?_
      rintro e w3 ⟨a1, a2, k1, k2, rfl, hO, hb3⟩
      clear hO
      replace BV := BV.below hb3
      replace BR := BR.below hb3
      have hz_hb3 := hb3.size
      replace hbw := chain hbw hb3
      clear hb3
      obtain ⟨y0, y1, yf, yl⟩ := BR.two
      go_wp2_with fail
      have BRn := ((BR.set (i := 0) (.slice none 0 0)).set (i := 1) (.slice none 0 0))
      have hbe := below2 (v0 := .slice none 0 0) (v1 := .slice none 0 0) BR hbw (by omega)
      have BRa := fun o => BRn.alloc o
      have z01 := fun o => (BRa o).two
      refine bodyPost_ret (v := .tuple #[.agg #[.slice none 0 0, .slice none 0 0], .int .i64 4]) (by simp [results, Try.results37, go_sem, (z01 _).1, (z01 _).2.1]) rfl ?_
      exact ⟨none, none, 0, 0, rfl, .inl ⟨rfl, rfl, rfl, rfl⟩, hbe.alloc hbe.size _⟩
    | true =>
      obtain ⟨⟨f1, f2, f3⟩, ⟨f4, f5, f6⟩, f7, f8⟩ := isB_fit hR
      have hbt := fun (b1 b2 : Option Addr) (k1 k2 : Nat) W (q1 : IRow W b1 (cX p bs)) (q2 : IRow W b2 (cY p bs)) => bits_any b1 b2 (cX p bs).length (cY p bs).length k1 k2 (cX p bs) (cY p bs) W rfl rfl f1 f4 (by omega) (by omega) f3 f6 (by omega) (by omega) q1 q2
      have hiff := cXY_bits hbin hl
      have hzl : (bitsL (cX p bs) ++ bitsL (cY p bs)).length ≤ 80 := by simp; omega
      obtain ⟨zs, hzs⟩ : ∃ zs, bitsL (cX p bs) ++ bitsL (cY p bs) = zs := ⟨_, rfl⟩
      rw [hzs] at hbt hiff hzl
      have heq := fun (b1 : Option Addr) (k1 : Nat) W (q1 : IRow W b1 zs) (q2 : IRow W a bs) => equal_any b1 a zs.length n k1 cap zs bs W rfl hn (by omega) hle q1 q2
      have HB := Lib.hid hb2
      have HBT := Lib.hid hbt
      by_cases hD : zs = bs
      · have e1 : okBits p c h s bs = true := by simp [okBits, hR]; exact hiff.1 hD
        rw [e1, if_pos rfl, if_pos rfl, if_pos rfl]
        rw [decide_eq_true hD] at heq
        have HE := Lib.hid heq
        obtain ⟨X, hX⟩ : ∃ X, cX p bs = X := ⟨_, rfl⟩
        obtain ⟨Y, hY⟩ : ∃ Y, cY p bs = Y := ⟨_, rfl⟩
        rw [hX, hY] at HB HBT
        rw [hX, hY]
        clear hb2 hBI e1 hl hv g hbin hR hbt hiff hzs heq hD f1 f2 f3 f4 f5 f6 f7 f8 hlX hlY hX hY hn
        go_enter Try.func37, Try.ntmps37
        obtain ⟨x0, x1, x2, x3, xf, xl⟩ := BV.four
        go_wp2_with fail
        have hvA : w.heap.size + 1 < ((w.alloc (.cells #[.int .i64 p, .int .i64 c, .int .i64 h, .int .i64 s] 25)).alloc (.cells #[.slice none 0 0, .slice none 0 0] 28)).heap.size := BR.lt
        generalize ((w.alloc (.cells #[.int .i64 p, .int .i64 c, .int .i64 h, .int .i64 s] 25)).alloc (.cells #[.slice none 0 0, .slice none 0 0] 28)) = vA at *
        clear x0 x1 x2 x3 xf xl
        refine (HV.out _).mono ?_
        rintro e w1 ⟨rfl, hb1⟩
        replace BV := BV.below hb1
        replace BR := BR.below hb1
        have hz_hb1 := hb1.size
        replace hbw := chain hbw hb1
        clear hb1
        obtain ⟨x0, x1, x2, x3, xf, xl⟩ := BV.four
        go_wp2_with fail
        refine (HH.out _ (hr.below hbw)).mono ?_
        rintro e w2 ⟨rfl, rfl⟩
        go_wp2_with fail
        clear x0 x1 x2 x3 xf xl
        refine (HB.out _ (hr.below hbw)).mono ?_
        rintro e w3 ⟨a1, a2, k1, k2, rfl, hO, hb3⟩
        replace BV := BV.below hb3
        replace BR := BR.below hb3
        have hz_hb3 := hb3.size
        replace hbw := chain hbw hb3
        clear hb3
        have BX := Blk.new w3 #[.slice a1 X.length k1, .slice a2 Y.length k2] 28
        have hal : Below w3.heap.size w3 (w3.alloc (.cells #[.slice a1 X.length k1, .slice a2 Y.length k2] 28)) := (Below.refl _ _).alloc (Nat.le_refl _) _
        replace BV := BV.below hal
        replace BR := BR.below hal
        replace hO := hO.below hal
        have hz_hal := hal.size
        replace hbw := chain hbw hal
        clear hal
        obtain ⟨q0, q1, qf, ql⟩ := BX.two
        go_wp2_with fail
        generalize (w3.alloc (.cells #[.slice a1 X.length k1, .slice a2 Y.length k2] 28)) = w4 at *
        clear q0 q1 qf ql
        refine (HBT.out _ _ _ _ _ hO.irow1 hO.irow2).mono ?_
        rintro e w5 ⟨a5, k5, rfl, hO5, hb5⟩
        replace BV := BV.below hb5
        replace BR := BR.below hb5
        replace BX := BX.below hb5
        replace hO := hO.below hb5
        have hz_hb5 := hb5.size
        replace hbw := chain hbw hb5
        clear hb5
        go_wp2_with fail
        refine (HE.out _ _ _ hO5.irow (hr.below hbw)).mono ?_
        rintro e w6 ⟨rfl, hb6⟩
        replace BV := BV.below hb6
        replace BR := BR.below hb6
        replace BX := BX.below hb6
        replace hO := hO.below hb6
        have hz_hb6 := hb6.size
        replace hbw := chain hbw hb6
        clear hb6
        obtain ⟨y0, y1, yf, yl⟩ := BR.two
        obtain ⟨q0, q1, qf, ql⟩ := BX.two
        go_wp2_with fail
        have BRn := (BR.set (i := 0) (.slice a1 X.length k1)).set (i := 1) (.slice a2 Y.length k2)
        obtain ⟨z0, z1, zf, zl⟩ := BRn.two
        refine bodyPost_ret (v := .tuple #[.agg #[.slice a1 X.length k1, .slice a2 Y.length k2], .int .i64 0]) (by simp [results, Try.results37, go_sem, z0, z1]) rfl ?_
        have hO2 : OBd vA.heap.size w6.heap.size w6 a1 a2 X Y := hO.mono (by omega) (by omega)
        exact ⟨a1, a2, k1, k2, rfl, ((hO2.other (B := w.heap.size + 1) (.inl (by omega))).other (B := w.heap.size + 1) (.inl (by omega))).mono (by omega) (by simp), below2 BR hbw (by omega)⟩
      · have e1 : okBits p c h s bs = false := by
          cases hq : okBits p c h s bs with
          | false => rfl
          | true =>
            simp only [okBits, Bool.and_eq_true, decide_eq_true_eq] at hq
            exact absurd (hiff.2 hq.1) hD
        rw [e1, if_neg (by simp), if_neg (by simp), if_neg (by simp)]
        rw [decide_eq_false hD] at heq
        have HE := Lib.hid heq
        obtain ⟨X, hX⟩ : ∃ X, cX p bs = X := ⟨_, rfl⟩
        obtain ⟨Y, hY⟩ : ∃ Y, cY p bs = Y := ⟨_, rfl⟩
        rw [hX, hY] at HB HBT
        clear hb2 hBI e1 hl hv g hbin hR hbt hiff hzs heq hD f1 f2 f3 f4 f5 f6 f7 f8 hlX hlY hX hY hn
        go_enter Try.func37, Try.ntmps37
        obtain ⟨x0, x1, x2, x3, xf, xl⟩ := BV.four
        go_wp2_with fail
        have hvA : w.heap.size + 1 < ((w.alloc (.cells #[.int .i64 p, .int .i64 c, .int .i64 h, .int .i64 s] 25)).alloc (.cells #[.slice none 0 0, .slice none 0 0] 28)).heap.size := BR.lt
        generalize ((w.alloc (.cells #[.int .i64 p, .int .i64 c, .int .i64 h, .int .i64 s] 25)).alloc (.cells #[.slice none 0 0, .slice none 0 0] 28)) = vA at *
        clear x0 x1 x2 x3 xf xl
        refine (HV.out _).mono ?_
        rintro e w1 ⟨rfl, hb1⟩
        replace BV := BV.below hb1
        replace BR := BR.below hb1
        have hz_hb1 := hb1.size
        replace hbw := chain hbw hb1
        clear hb1
        obtain ⟨x0, x1, x2, x3, xf, xl⟩ := BV.four
        go_wp2_with fail
        refine (HH.out _ (hr.below hbw)).mono ?_
        rintro e w2 ⟨rfl, rfl⟩
        go_wp2_with fail
        clear x0 x1 x2 x3 xf xl
        refine (HB.out _ (hr.below hbw)).mono ?_
        rintro e w3 ⟨a1, a2, k1, k2, rfl, hO, hb3⟩
        replace BV := BV.below hb3
        replace BR := BR.below hb3
        have hz_hb3 := hb3.size
        replace hbw := chain hbw hb3
        clear hb3
        have BX := Blk.new w3 #[.slice a1 X.length k1, .slice a2 Y.length k2] 28
        have hal : Below w3.heap.size w3 (w3.alloc (.cells #[.slice a1 X.length k1, .slice a2 Y.length k2] 28)) := (Below.refl _ _).alloc (Nat.le_refl _) _
        replace BV := BV.below hal
        replace BR := BR.below hal
        replace hO := hO.below hal
        have hz_hal := hal.size
        replace hbw := chain hbw hal
        clear hal
        obtain ⟨q0, q1, qf, ql⟩ := BX.two
        go_wp2_with fail
        generalize (w3.alloc (.cells #[.slice a1 X.length k1, .slice a2 Y.length k2] 28)) = w4 at *
        clear q0 q1 qf ql
        refine (HBT.out _ _ _ _ _ hO.irow1 hO.irow2).mono ?_
        rintro e w5 ⟨a5, k5, rfl, hO5, hb5⟩
        replace BV := BV.below hb5
        replace BR := BR.below hb5
        replace BX := BX.below hb5
        replace hO := hO.below hb5
        have hz_hb5 := hb5.size
        replace hbw := chain hbw hb5
        clear hb5
        go_wp2_with fail
        refine (HE.out _ _ _ hO5.irow (hr.below hbw)).mono ?_
        rintro e w6 ⟨rfl, hb6⟩
        replace BV := BV.below hb6
        replace BR := BR.below hb6
        replace BX := BX.below hb6
        replace hO := hO.below hb6
        have hz_hb6 := hb6.size
        replace hbw := chain hbw hb6
        clear hb6
        obtain ⟨y0, y1, yf, yl⟩ := BR.two
        go_wp2_with fail
        have BRn := (BR.set (i := 0) (.slice none 0 0)).set (i := 1) (.slice none 0 0)
        obtain ⟨z0, z1, zf, zl⟩ := BRn.two
        refine bodyPost_ret (v := .tuple #[.agg #[.slice none 0 0, .slice none 0 0], .int .i64 4]) (by simp [results, Try.results37, go_sem, z0, z1]) rfl ?_
        exact ⟨none, none, 0, 0, rfl, .inl ⟨rfl, rfl, rfl, rfl⟩, below2 BR hbw (by omega)⟩
set_option maxRecDepth 8000 in
set_option maxHeartbeats 2000000 in
theorem specBoardOfBits_any (p c h s : Int) (a : Option Addr) (n cap : Nat) (bs : List Int) (w : World) (hn : bs.length = n) (hle : n ≤ 1048576) (hr : IRow w a bs) :
    Calls Try.prog 45 #[.agg #[.int .i64 p, .int .i64 c, .int .i64 h, .int .i64 s], .slice a n cap] w (BoardGot2 (bobX p c h s bs) (bobY p c h s bs) (.int .i64 (bobE p c h s bs)) w) := by
  have BV := Blk.new w #[.int .i64 p, .int .i64 c, .int .i64 h, .int .i64 s] 25
  have hb1 : Below w.heap.size w (w.alloc (.cells #[.int .i64 p, .int .i64 c, .int .i64 h, .int .i64 s] 25)) := (Below.refl _ _).alloc (Nat.le_refl _) _
  have BR := Blk.new (w.alloc (.cells #[.int .i64 p, .int .i64 c, .int .i64 h, .int .i64 s] 25)) #[.slice none 0 0, .slice none 0 0] 28
  have hz1 : (w.alloc (.cells #[.int .i64 p, .int .i64 c, .int .i64 h, .int .i64 s] 25)).heap.size = w.heap.size + 1 := by simp
  rw [hz1] at BR
  replace BV := BV.alloc (.cells #[.slice none 0 0, .slice none 0 0] 28)
  have hbw := hb1.alloc hb1.size (.cells #[.slice none 0 0, .slice none 0 0] 28)
  clear hz1 hb1
  have hV := fun W => specIsVariant_any p c h s W
  by_cases g : vB p c h s = true
  rotate_left
  · rw [show bobX p c h s bs = [] by rw [bobX, if_neg (by simp [bobOk, g])], show bobY p c h s bs = [] by rw [bobY, if_neg (by simp [bobOk, g])], bobE, if_neg g]
    replace g : vB p c h s = false := by simpa using g
    rw [g] at hV
    have HV := Lib.hid hV
    clear hV
    go_enter Try.func45, Try.ntmps45
    obtain ⟨x0, x1, x2, x3, xf, xl⟩ := BV.four
    go_wp2_with fail
    generalize ((w.alloc (.cells #[.int .i64 p, .int .i64 c, .int .i64 h, .int .i64 s] 25)).alloc (.cells #[.slice none 0 0, .slice none 0 0] 28)) = v0 at *
    clear x0 x1 x2 x3 xf xl
    refine (HV.out _).mono ?_
    rintro e w1 ⟨rfl, hb1⟩
    replace BV := BV.below hb1
    replace BR := BR.below hb1
    have hz_hb1 := hb1.size
    replace hbw := chain hbw hb1
    clear hb1
    obtain ⟨y0, y1, yf, yl⟩ := BR.two
    go_wp2_with fail
    have BRn := (BR.set (i := 0) (.slice none 0 0)).set (i := 1) (.slice none 0 0)
    obtain ⟨z0, z1, zf, zl⟩ := BRn.two
    refine bodyPost_ret (v := .tuple #[.agg #[.slice none 0 0, .slice none 0 0], .int .i64 1]) (by simp [results, Try.results45, go_sem, z0, z1]) rfl ?_
    exact ⟨none, none, 0, 0, rfl, .inl ⟨rfl, rfl, rfl, rfl⟩, below2 BR hbw (by omega)⟩
  rw [g] at hV
  have HV := Lib.hid hV
  have hv := vB_iff.1 g
  subst hn
  obtain ⟨X, hX⟩ : ∃ X, bobX p c h s bs = X := ⟨_, rfl⟩
  obtain ⟨Y, hY⟩ : ∃ Y, bobY p c h s bs = Y := ⟨_, rfl⟩
  obtain ⟨E, hE⟩ : ∃ E, bobE p c h s bs = E := ⟨_, rfl⟩
  rw [hX, hY, hE]
  have hbad : inBits bs = false → X = [] ∧ Y = [] ∧ E = 2 := fun e0 => by
    rw [← hX, ← hY, ← hE]
    exact ⟨by rw [bobX, if_neg (by simp [bobOk, e0])], by rw [bobY, if_neg (by simp [bobOk, e0])], by rw [bobE, if_pos g, e0, if_neg (by simp)]⟩
  have hgood : inBits bs = true → (okBits p c h s bs = true → X = cX p bs ∧ Y = cY p bs ∧ E = 0) ∧ (okBits p c h s bs = false → X = [] ∧ Y = [] ∧ E = 4) := fun e0 => by
    rw [← hX, ← hY, ← hE]
    refine ⟨fun e1 => ⟨by rw [bobX, if_pos (by simp [bobOk, e0, e1, g])], by rw [bobY, if_pos (by simp [bobOk, e0, e1, g])], by rw [bobE, if_pos g, if_pos e0, if_pos e1]⟩, fun e1 => ⟨by rw [bobX, if_neg (by simp [bobOk, e1])], by rw [bobY, if_neg (by simp [bobOk, e1])], by rw [bobE, if_pos g, if_pos e0, e1, if_neg (by simp)]⟩⟩
  have HBAD := Lib.hid hbad
  have HGOOD := Lib.hid hgood
  have HP := Lib.hid hv
  clear hV g hbad hgood hX hY hE hv
  go_enter Try.func45, Try.ntmps45
  obtain ⟨x0, x1, x2, x3, xf, xl⟩ := BV.four
  go_wp2_with fail
  have hvA : w.heap.size + 1 < ((w.alloc (.cells #[.int .i64 p, .int .i64 c, .int .i64 h, .int .i64 s] 25)).alloc (.cells #[.slice none 0 0, .slice none 0 0] 28)).heap.size := BR.lt
  generalize ((w.alloc (.cells #[.int .i64 p, .int .i64 c, .int .i64 h, .int .i64 s] 25)).alloc (.cells #[.slice none 0 0, .slice none 0 0] 28)) = vA at *
  clear x0 x1 x2 x3 xf xl
  refine (HV.out _).mono ?_
  rintro e w1 ⟨rfl, hb1⟩
  replace BV := BV.below hb1
  replace BR := BR.below hb1
  have hz_hb1 := hb1.size
  replace hbw := chain hbw hb1
  clear hb1
  go_wp2_with fail
  go_loopg [6] bs.length (fun m i wr => w1 = wr ∧ ∃ k : Nat, k ≤ bs.length ∧ m = bs.length - k ∧ i = .int .i64 k ∧ ∀ j, j < k → bs.getD j 0 = 0 ∨ bs.getD j 0 = 1)
  case atStart => exact ⟨rfl, 0, by omega, by omega, rfl, fun j hj => by omega⟩
  case round =>
    obtain ⟨rfl, k, hk, hm, rfl, hall⟩ := hrel
    have HA := Lib.hid hall
    have HM := Lib.hid hm
    clear hall hm
    by_cases hlt : k < bs.length
    · have hlt' : (k : Int) < (bs.length : Int) := by omega
      have hk0 : (0 : Int) ≤ (k : Int) := by omega
      obtain ⟨b, o, rfl, hc⟩ := hr.below hbw k hlt
      obtain ⟨v, hv⟩ : ∃ v, bs.getD k 0 = v := ⟨_, rfl⟩
      rw [hv] at hc
      have HVV := Lib.hid hv
      clear hv
      have hin := fun W => l01In_any v 0 1 W
      by_cases h01 : v = 0 ∨ v = 1
      · rw [inB_iff.2 (show 0 ≤ v ∧ v ≤ 1 by omega)] at hin
        have HI := Lib.hid hin
        have H01 := Lib.hid h01
        clear hin h01
        go_wp2_with (go_at_call 84; refine (HI.out _).mono ?_; rintro e w2 ⟨rfl, rfl⟩)
        go_roundg (bs.length - (k + 1))
        case measure => have := HM.out; omega
        case rel =>
          refine ⟨rfl, k + 1, by omega, rfl, by go_num, fun j hj => ?_⟩
          by_cases e : j = k
          · subst e; rw [HVV.out]; exact H01.out
          · exact HA.out j (by omega)
      · have hb2 : inB v 0 1 = false := by
          cases hq : inB v 0 1 with
          | false => rfl
          | true => have := inB_iff.1 hq; omega
        rw [hb2] at hin
        have HI := Lib.hid hin
        have e0 : inBits bs = false := by
          have : binB bs = false := by
            rw [binB, List.all_eq_false]
            exact ⟨v, HVV.out ▸ getD_mem hlt, by simp; omega⟩
          simp [inBits, this]
        obtain ⟨rfl, rfl, rfl⟩ := HBAD.out e0
        clear hin h01 hb2 e0
        obtain ⟨y0, y1, yf, yl⟩ := BR.two
        go_wp2_with (go_at_call 84; refine (HI.out _).mono ?_; rintro e w2 ⟨rfl, rfl⟩)
        have BRn := (BR.set (i := 0) (.slice none 0 0)).set (i := 1) (.slice none 0 0)
        obtain ⟨z0, z1, zf, zl⟩ := BRn.two
        refine bodyPost_ret (v := .tuple #[.agg #[.slice none 0 0, .slice none 0 0], .int .i64 2]) (by simp [results, Try.results45, go_sem, z0, z1]) rfl ?_
        exact ⟨none, none, 0, 0, rfl, .inl ⟨rfl, rfl, rfl, rfl⟩, below2 BR hbw (by omega)⟩
    · obtain rfl : k = bs.length := by omega
      have hlt' : ¬ ((bs.length : Int) < (bs.length : Int)) := by omega
      have hbin : binB bs = true := by
        rw [binB_iff]
        intro x hx
        obtain ⟨j, hj, rfl⟩ := List.mem_iff_getElem.1 hx
        have := HA.out j hj
        rwa [show bs.getD j 0 = bs[j] by simp [hj]] at this
      by_cases i80 : bs.length ≤ 80
      rotate_left
      · have e0 : inBits bs = false := by simp [inBits]; omega
        obtain ⟨rfl, rfl, rfl⟩ := HBAD.out e0
        have h80b : decide ((80 : Int) < (bs.length : Int)) = true := by rw [decide_eq_true_iff]; omega
        have h80c : decide (80 < bs.length) = true := by rw [decide_eq_true_iff]; omega
        clear e0 hbin hlt
        obtain ⟨y0, y1, yf, yl⟩ := BR.two
        go_wp2_with fail
        have BRn := (BR.set (i := 0) (.slice none 0 0)).set (i := 1) (.slice none 0 0)
        obtain ⟨z0, z1, zf, zl⟩ := BRn.two
        refine bodyPost_ret (v := .tuple #[.agg #[.slice none 0 0, .slice none 0 0], .int .i64 2]) (by simp [results, Try.results45, go_sem, z0, z1]) rfl ?_
        exact ⟨none, none, 0, 0, rfl, .inl ⟨rfl, rfl, rfl, rfl⟩, below2 BR hbw (by omega)⟩
      have e0 : inBits bs = true := by simp [inBits, hbin, i80]
      obtain ⟨g1, g2⟩ := HGOOD.out e0
      have hv := HP.out
      have h80b : decide ((80 : Int) < (bs.length : Int)) = false := by rw [decide_eq_false_iff_not]; omega
      have h80c : decide (80 < bs.length) = false := by rw [decide_eq_false_iff_not]; omega
      have hzP : zOf p = p.toNat + 1 := by unfold zOf; omega
      have hLB : ∀ (R : Bool) (X2 Y2 : List Int), ((trl 0 bs = 0 ∧ (cib 0 bs).length = 2 * zOf p ∧ X2 = cX p bs ∧ Y2 = cY p bs ∧ isB p c h s X2 Y2 = R) ∨ (¬ (trl 0 bs = 0 ∧ (cib 0 bs).length = 2 * zOf p) ∧ X2 = [] ∧ Y2 = [] ∧ R = false)) →
          ∀ W, IRow W a bs → Calls Try.prog 85 #[.agg #[.int .i64 p, .int .i64 c, .int .i64 h, .int .i64 s], .slice a bs.length cap] W (BoardGot2 X2 Y2 (.bool R) W) := by
        intro R X2 Y2 hc W hq
        have q := l03Board_any p.toNat c h s a bs.length cap bs (cib 0 bs) X2 Y2 (zOf p) (trl 0 bs) R W rfl (by omega) rfl rfl hzP (by omega) (by
          rw [show ((p.toNat : Nat) : Int) = p by omega]
          rcases hc with ⟨q1, q2, q3, q4, q5⟩ | hc
          · exact .inl ⟨q1, q2, q3, by rw [q4, cY, List.take_of_length_le (by simp; omega)], q5⟩
          · exact .inr hc) hq
        rw [show ((p.toNat : Nat) : Int) = p by omega] at q
        exact q
      clear hlt hbin e0 hzP HV
      cases hq : okBits p c h s bs with
      | true =>
        obtain ⟨rfl, rfl, rfl⟩ := g1 hq
        simp only [okBits, Bool.and_eq_true, decide_eq_true_eq] at hq
        have hB := hLB true (cX p bs) (cY p bs) (.inl ⟨hq.1.1, hq.1.2, rfl, rfl, hq.2⟩)
        obtain ⟨X, hX⟩ : ∃ X, cX p bs = X := ⟨_, rfl⟩
        obtain ⟨Y, hY⟩ : ∃ Y, cY p bs = Y := ⟨_, rfl⟩
        rw [hX, hY] at hB
        have HB := Lib.hid hB
        have HXX := Lib.hid hX
        have HYY := Lib.hid hY
        clear hB hLB hq g1 g2 hX hY hv
        obtain ⟨x0, x1, x2, x3, xf, xl⟩ := BV.four
        go_wp2_with fail
        clear x0 x1 x2 x3 xf xl
        refine (HB.out _ (hr.below hbw)).mono ?_
        rintro e w3 ⟨a1, a2, k1, k2, rfl, hO, hb3⟩
        replace BV := BV.below hb3
        replace BR := BR.below hb3
        have hz_hb3 := hb3.size
        replace hbw := chain hbw hb3
        clear hb3
        have BX := Blk.new w3 #[.slice a1 X.length k1, .slice a2 Y.length k2] 28
        obtain ⟨y0, y1, yf, yl⟩ := BR.two
        obtain ⟨q0, q1, qf, ql⟩ := BX.two
        go_wp2_with fail
        have BRn := (BR.set (i := 0) (.slice a1 X.length k1)).set (i := 1) (.slice a2 Y.length k2)
        have BRa := fun o => (BRn.alloc o).two
        have hO2 : OBd w1.heap.size w3.heap.size w3 a1 a2 X Y := hO
        have hbe := below2 (v0 := .slice a1 X.length k1) (v1 := .slice a2 Y.length k2) BR hbw (by omega)
        rw [HXX.out, HYY.out]
        refine bodyPost_ret (v := .tuple #[.agg #[.slice a1 X.length k1, .slice a2 Y.length k2], .int .i64 0]) (by simp [results, Try.results45, go_sem, (BRa _).1, (BRa _).2.1]) rfl ?_
        exact ⟨a1, a2, k1, k2, rfl, (((hO2.other (B := w.heap.size + 1) (.inl (by omega))).other (B := w.heap.size + 1) (.inl (by omega))).alloc _).mono (by omega) (by simp), hbe.alloc hbe.size _⟩
      | false =>
        obtain ⟨rfl, rfl, rfl⟩ := g2 hq
        obtain ⟨X2, Y2, hB⟩ : ∃ X2 Y2 : List Int, ∀ W, IRow W a bs → Calls Try.prog 85 #[.agg #[.int .i64 p, .int .i64 c, .int .i64 h, .int .i64 s], .slice a bs.length cap] W (BoardGot2 X2 Y2 (.bool false) W) := by
          by_cases hc : trl 0 bs = 0 ∧ (cib 0 bs).length = 2 * zOf p
          · have hi : isB p c h s (cX p bs) (cY p bs) = false := by simpa [okBits, hc] using hq
            exact ⟨_, _, hLB false (cX p bs) (cY p bs) (.inl ⟨hc.1, hc.2, rfl, rfl, hi⟩)⟩
          · exact ⟨_, _, hLB false [] [] (.inr ⟨hc, rfl, rfl, rfl⟩)⟩
        have HB := Lib.hid hB
        clear hB hLB hq g1 g2 hv
        obtain ⟨x0, x1, x2, x3, xf, xl⟩ := BV.four
        go_wp2_with fail
        clear x0 x1 x2 x3 xf xl
        refine (HB.out _ (hr.below hbw)).mono ?_
        rintro e w3 ⟨a1, a2, k1, k2, rfl, hO, hb3⟩
        replace BV := BV.below hb3
        replace BR := BR.below hb3
        have hz_hb3 := hb3.size
        replace hbw := chain hbw hb3
        clear hb3
        obtain ⟨y0, y1, yf, yl⟩ := BR.two
        go_wp2_with fail
        have BRn := (BR.set (i := 0) (.slice none 0 0)).set (i := 1) (.slice none 0 0)
        have BRa := fun o => (BRn.alloc o).two
        have hbe := below2 (v0 := .slice none 0 0) (v1 := .slice none 0 0) BR hbw (by omega)
        refine bodyPost_ret (v := .tuple #[.agg #[.slice none 0 0, .slice none 0 0], .int .i64 4]) (by simp [results, Try.results45, go_sem, (BRa _).1, (BRa _).2.1]) rfl ?_
        exact ⟨none, none, 0, 0, rfl, .inl ⟨rfl, rfl, rfl, rfl⟩, hbe.alloc hbe.size _⟩
end Go.Proofs.Ytkddeoifdecniaa
