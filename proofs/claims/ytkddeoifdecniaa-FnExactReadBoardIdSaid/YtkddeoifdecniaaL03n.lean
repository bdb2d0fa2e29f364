/- Contracts of chapter 3: the board with an identifier, of the model. -/
import Derived.Test.YtkddeoifdecniaaL03m
import Derived.Test.YtkddeoifdecniaaRbM
namespace Go.Proofs.Ytkddeoifdecniaa
open Go.ChangeShapes Go.WideShapes Go.ChangeAt Go.RowKit
set_option linter.unusedVariables false
set_option linter.unusedSimpArgs false

theorem tb_snoc (t : ByteArray) (k : Nat) (h : k < t.size) : sbits (t.data.toList.take (k + 1)) = sbits (t.data.toList.take k) ++ bits6 (idx t[k]).toNat := by
  have h2 : k < t.data.toList.length := by simpa using h
  rw [List.take_succ_eq_append_getElem h2]
  unfold sbits
  rw [List.map_append, List.flatten_append]
  simp [ByteArray.getElem_eq_getElem_data]
theorem tb_all (t : ByteArray) : sbits (t.data.toList.take t.size) = tb t := by
  rw [List.take_of_length_le (by simp), tb]
theorem tb_small (t : ByteArray) (k : Nat) : (sbits (t.data.toList.take k)).length ≤ 6 * t.size := by
  rw [sbits_length]
  simp
  omega
theorem bits6_take (n j : Nat) (h : j < 6) : (bits6 n).take (j + 1) = (bits6 n).take j ++ [((n / (32 / 2 ^ j) % 2 : Nat) : Int)] := by
  rcases (by omega : j = 0 ∨ j = 1 ∨ j = 2 ∨ j = 3 ∨ j = 4 ∨ j = 5) with rfl | rfl | rfl | rfl | rfl | rfl <;> simp [bits6]
theorem half_pow (j : Nat) (h : j < 6) : 1 ≤ 32 / 2 ^ j ∧ 32 / 2 ^ j ≤ 32 ∧ 32 / 2 ^ j / 2 = 32 / 2 ^ (j + 1) := by
  rcases (by omega : j = 0 ∨ j = 1 ∨ j = 2 ∨ j = 3 ∨ j = 4 ∨ j = 5) with rfl | rfl | rfl | rfl | rfl | rfl <;> decide
set_option maxRecDepth 8000 in
set_option maxHeartbeats 3000000 in
theorem specReadBoardId_any (p c h s : Int) (t : ByteArray) (w : World) :
    Calls Try.prog 47 #[.agg #[.int .i64 p, .int .i64 c, .int .i64 h, .int .i64 s], .string t] w (BoardGot2 (rbX p c h s t) (rbY p c h s t) (.int .i64 (rbE p c h s t)) w) := by
  have BV := Blk.new w #[.int .i64 p, .int .i64 c, .int .i64 h, .int .i64 s] 25
  have hb1 : Below w.heap.size w (w.alloc (.cells #[.int .i64 p, .int .i64 c, .int .i64 h, .int .i64 s] 25)) := (Below.refl _ _).alloc (Nat.le_refl _) _
  have BR := Blk.new (w.alloc (.cells #[.int .i64 p, .int .i64 c, .int .i64 h, .int .i64 s] 25)) #[.slice none 0 0, .slice none 0 0] 28
  have hz1 : (w.alloc (.cells #[.int .i64 p, .int .i64 c, .int .i64 h, .int .i64 s] 25)).heap.size = w.heap.size + 1 := by simp
  rw [hz1] at BR
  replace BV := BV.alloc (.cells #[.slice none 0 0, .slice none 0 0] 28)
  have hbw := hb1.alloc hb1.size (.cells #[.slice none 0 0, .slice none 0 0] 28)
  clear hz1 hb1
  have hV := fun W => specIsVariant_any p c h s W
  by_cases g : vB p c h s = true
  rotate_left
  · obtain ⟨eX, eY⟩ := rb_none (show rbAll p c h s t = false by simp [rbAll, g])
    rw [eX, eY, rbE, if_neg g]
    replace g : vB p c h s = false := by simpa using g
    rw [g] at hV
    have HV := Lib.hid hV
    clear hV eX eY
    go_enter Try.func47, Try.ntmps47
    obtain ⟨x0, x1, x2, x3, xf, xl⟩ := BV.four
    go_wp2_with fail
    have hvA : w.heap.size + 1 < ((w.alloc (.cells #[.int .i64 p, .int .i64 c, .int .i64 h, .int .i64 s] 25)).alloc (.cells #[.slice none 0 0, .slice none 0 0] 28)).heap.size := BR.lt
    generalize ((w.alloc (.cells #[.int .i64 p, .int .i64 c, .int .i64 h, .int .i64 s] 25)).alloc (.cells #[.slice none 0 0, .slice none 0 0] 28)) = vA at *
    clear x0 x1 x2 x3 xf xl
    refine (HV.out _).mono ?_
    rintro e w1 ⟨rfl, hb1⟩
    replace BV := BV.below hb1
    replace BR := BR.below hb1
    have hz_hb1 := hb1.size
    replace hbw := chain hbw hb1
    clear hb1
    obtain ⟨y0, y1, yf, yl⟩ := BR.two
    go_wp2_with fail
    have BRn := (BR.set (i := 0) (.slice none 0 0)).set (i := 1) (.slice none 0 0)
    obtain ⟨z0, z1, zf, zl⟩ := BRn.two
    refine bodyPost_ret (v := .tuple #[.agg #[.slice none 0 0, .slice none 0 0], .int .i64 1]) (by simp [results, Try.results47, go_sem, z0, z1]) rfl ?_
    exact ⟨none, none, 0, 0, rfl, .inl ⟨rfl, rfl, rfl, rfl⟩, below2 BR hbw (by omega)⟩
  rw [g] at hV
  have HV := Lib.hid hV
  have hv := vB_iff.1 g
  by_cases i14 : t.size ≤ 14
  rotate_left
  · obtain ⟨eX, eY⟩ := rb_none (show rbAll p c h s t = false by simp [rbAll, rbIn, i14])
    rw [eX, eY, rbE, if_pos g, if_neg i14]
    have h14b : decide ((14 : Int) < (t.size : Int)) = true := by rw [decide_eq_true_iff]; omega
    have h14c : decide (14 < t.size) = true := by rw [decide_eq_true_iff]; omega
    clear hV eX eY hv g
    go_enter Try.func47, Try.ntmps47
    obtain ⟨x0, x1, x2, x3, xf, xl⟩ := BV.four
    go_wp2_with fail
    have hvA : w.heap.size + 1 < ((w.alloc (.cells #[.int .i64 p, .int .i64 c, .int .i64 h, .int .i64 s] 25)).alloc (.cells #[.slice none 0 0, .slice none 0 0] 28)).heap.size := BR.lt
    generalize ((w.alloc (.cells #[.int .i64 p, .int .i64 c, .int .i64 h, .int .i64 s] 25)).alloc (.cells #[.slice none 0 0, .slice none 0 0] 28)) = vA at *
    clear x0 x1 x2 x3 xf xl
    refine (HV.out _).mono ?_
    rintro e w1 ⟨rfl, hb1⟩
    replace BV := BV.below hb1
    replace BR := BR.below hb1
    have hz_hb1 := hb1.size
    replace hbw := chain hbw hb1
    clear hb1
    obtain ⟨y0, y1, yf, yl⟩ := BR.two
    go_wp2_with fail
    have BRn := (BR.set (i := 0) (.slice none 0 0)).set (i := 1) (.slice none 0 0)
    obtain ⟨z0, z1, zf, zl⟩ := BRn.two
    refine bodyPost_ret (v := .tuple #[.agg #[.slice none 0 0, .slice none 0 0], .int .i64 3]) (by simp [results, Try.results47, go_sem, z0, z1]) rfl ?_
    exact ⟨none, none, 0, 0, rfl, .inl ⟨rfl, rfl, rfl, rfl⟩, below2 BR hbw (by omega)⟩
  have h14b : decide ((14 : Int) < (t.size : Int)) = false := by rw [decide_eq_false_iff_not]; omega
  have h14c : decide (14 < t.size) = false := by rw [decide_eq_false_iff_not]; omega
  obtain ⟨X, hX⟩ : ∃ X, rbX p c h s t = X := ⟨_, rfl⟩
  obtain ⟨Y, hY⟩ : ∃ Y, rbY p c h s t = Y := ⟨_, rfl⟩
  obtain ⟨E, hE⟩ : ∃ E, rbE p c h s t = E := ⟨_, rfl⟩
  rw [hX, hY, hE]
  have hbad : onlyL t.data.toList = false → X = [] ∧ Y = [] ∧ E = 6 := fun e0 => by
    obtain ⟨q1, q2⟩ := rb_none (show rbAll p c h s t = false by simp [rbAll, rbIn, e0])
    rw [← hX, ← hY, ← hE]
    exact ⟨q1, q2, by rw [rbE, if_pos g, if_pos i14, if_neg (by simp [e0])]⟩
  have hno : onlyL t.data.toList = true → rbOk p c h s t = false → X = [] ∧ Y = [] ∧ E = 4 := fun e0 e1 => by
    obtain ⟨q1, q2⟩ := rb_none (show rbAll p c h s t = false by simp [rbAll, e1])
    rw [← hX, ← hY, ← hE]
    exact ⟨q1, q2, by rw [rbE, if_pos g, if_pos i14, if_pos e0, if_neg (by simp [e1])]⟩
  have hyes : onlyL t.data.toList = true → rbOk p c h s t = true → X = cX p (tb t) ∧ Y = cY p (tb t) ∧ E = 0 := fun e0 e1 => by
    have q : rbAll p c h s t = true := by simp [rbAll, rbIn, g, e0, e1, i14]
    rw [← hX, ← hY, ← hE]
    exact ⟨by rw [rbX, if_pos q], by rw [rbY, if_pos q], by rw [rbE, if_pos g, if_pos i14, if_pos e0, if_pos e1]⟩
  have HBAD := Lib.hid hbad
  have HNO := Lib.hid hno
  have HYES := Lib.hid hyes
  have hp1 : 1 ≤ p := by omega
  have hp2 : p ≤ 24 := by omega
  clear hbad hno hyes hX hY hE hV hv g
  go_enter Try.func47, Try.ntmps47
  obtain ⟨x0, x1, x2, x3, xf, xl⟩ := BV.four
  go_wp2_with fail
  have hvA : w.heap.size + 1 < ((w.alloc (.cells #[.int .i64 p, .int .i64 c, .int .i64 h, .int .i64 s] 25)).alloc (.cells #[.slice none 0 0, .slice none 0 0] 28)).heap.size := BR.lt
  generalize ((w.alloc (.cells #[.int .i64 p, .int .i64 c, .int .i64 h, .int .i64 s] 25)).alloc (.cells #[.slice none 0 0, .slice none 0 0] 28)) = vA at *
  clear x0 x1 x2 x3 xf xl
  refine (HV.out _).mono ?_
  rintro e w1 ⟨rfl, hb1⟩
  replace BV := BV.below hb1
  replace BR := BR.below hb1
  have hz_hb1 := hb1.size
  replace hbw := chain hbw hb1
  clear hb1
  go_wp2_with fail
  have hO0 := Own.start w1
  replace BV := BV.alloc (.cells #[] 2)
  replace BR := BR.alloc (.cells #[] 2)
  have hz3 : w1.heap.size ≤ (w1.alloc (.cells #[] 2)).heap.size := by simp
  replace hbw := hbw.alloc hbw.size (.cells #[] 2)
  generalize (w1.alloc (.cells #[] 2)) = v0 at *
  have hl1 : w.heap.size + 1 < w1.heap.size := by omega
  generalize w1.heap.size = bz at *
  clear h14b h14c HV hz_hb1 hvA
  go_loopg [6, 7] t.size (fun m q i wr => ∃ k : Nat, k ≤ t.size ∧ m = t.size - k ∧ i = .int .i64 k ∧ (∀ j (h : j < t.size), j < k → 0 ≤ idx t[j]) ∧ Own wr bz q (sbits (t.data.toList.take k)) ∧ Below bz v0 wr)
  case atStart => exact ⟨0, by omega, by omega, rfl, fun j h hj => by omega, by simpa [sbits] using hO0, Below.refl _ _⟩
  case round =>
    obtain ⟨k, hk, hm, rfl, hall, hO, hbel⟩ := hrel
    clear hO0
    have HA := Lib.hid hall
    have HM := Lib.hid hm
    clear hall hm
    by_cases hlt : k < t.size
    · have hlt' : (k : Int) < (t.size : Int) := by omega
      have hk0 : (0 : Int) ≤ (k : Int) := by omega
      have hi := fun W => l03Letter_any t[k] W
      obtain ⟨u, hu⟩ : ∃ u, idx t[k] = u := ⟨_, rfl⟩
      rw [hu] at hi
      by_cases h0 : 0 ≤ u
      · obtain ⟨n, hn, hn64⟩ := idx_nat (b := t[k]) (by rw [hu]; exact h0)
        obtain rfl : u = (n : Int) := hu.symm.trans hn
        have hsn := tb_snoc t k hlt
        rw [hn, show ((n : Int)).toNat = n by omega] at hsn
        have hsm := tb_small t k
        obtain ⟨D0, hD0⟩ : ∃ D0, sbits (t.data.toList.take k) = D0 := ⟨_, rfl⟩
        rw [hD0] at hO hsn hsm
        have h0' : ¬ (n : Int) < 0 := by omega
        have hnb : (n : Int) ≤ 63 := by omega
        have HI := Lib.hid hi
        have HU := Lib.hid hu
        have HS := Lib.hid hsn
        have HSM := Lib.hid hsm
        clear hi hu hn hsn hD0 hsm
        go_wp2_with (go_at_call 86; refine (HI.out _).mono ?_; rintro e w2 ⟨rfl, rfl⟩)
        go_loopg [6, 9] 6 (fun m q i wi => ∃ j K : Nat, j ≤ 6 ∧ m = 6 - j ∧ K = 32 / 2 ^ j ∧ i = .int .i64 K ∧ Own wi bz q (D0 ++ (bits6 n).take j) ∧ Below bz v0 wi)
        case atStart => exact ⟨0, 32, by omega, by omega, rfl, rfl, by simpa using hO, hbel⟩
        case round =>
          clear hO hbel
          obtain ⟨j, K, hj, hm2, hK, rfl, hO, hbel⟩ := hrel
          have hbz : bz ≤ wr.heap.size := Nat.le_trans hz3 hbel.size
          by_cases hj6 : j < 6
          · obtain ⟨k1, k2, k3⟩ := half_pow j hj6
            have k4 := bits6_take n j hj6
            rw [← hK] at k1 k2 k3 k4
            have hl : (D0 ++ (bits6 n).take j).length ≤ 1048576 := by
              have := HSM.out
              simp [bits6_length]
              omega
            obtain ⟨D, hD⟩ : ∃ D, D0 ++ (bits6 n).take j = D := ⟨_, rfl⟩
            rw [hD] at hO hl
            obtain ⟨q1, hq1⟩ : ∃ q1, n / K = q1 := ⟨_, rfl⟩
            have hqb : q1 ≤ n := by rw [← hq1]; exact Nat.div_le_self _ _
            have e0 : (n : Int).tdiv (K : Int) = (q1 : Int) := by rw [← hq1]; rfl
            have e1 : IntKind.i64.wrap ((n : Int).tdiv (K : Int)) = (q1 : Int) := by rw [e0]; exact IntWalk.i64_in _ (by omega)
            have e2 : (q1 : Int).tmod 2 = ((q1 % 2 : Nat) : Int) := rfl
            have e3 : IntKind.i64.wrap ((K : Int).tdiv 2) = ((K / 2 : Nat) : Int) := by
              rw [show (K : Int).tdiv 2 = ((K / 2 : Nat) : Int) from rfl]
              exact IntWalk.i64_in _ (by omega)
            rw [hq1] at k4
            have hK0 : (0 : Int) < (K : Int) := by omega
            have n0 : ((K : Int) = 0) = False := by rw [eq_iff_iff, iff_false]; omega
            have n1 : ¬ (K : Int) = 0 := by omega
            have HLD := Lib.hid hl
            have HK3 := Lib.hid (k3.trans (congrArg (32 / 2 ^ ·) rfl))
            have HK4 := Lib.hid k4
            have HD := Lib.hid hD
            clear hl k3 k4 hD hq1 hK
            go_wp2_with (at_builtin; refine wp_push rfl (.tmp 40) (.tmp 45) rfl bz _ D rfl hO _ rfl HLD.out hbz ?_; intro v2 w2 hO2 hb2)
            go_roundg (6 - (j + 1))
            case measure => omega
            case rel => exact ⟨j + 1, K / 2, by omega, rfl, HK3.out, by go_num, by rw [HK4.out, ← List.append_assoc, HD.out]; exact hO2, hbel.trans hb2⟩
          · obtain rfl : j = 6 := by omega
            obtain rfl : K = 0 := hK
            rw [List.take_of_length_le (l := bits6 n) (by simp [bits6_length])] at hO
            go_wp2_with fail
            go_roundg (t.size - (k + 1))
            case measure => have := HM.out; omega
            case rel =>
              refine ⟨k + 1, by omega, rfl, by go_num, fun j h hj => ?_, by rw [HS.out]; exact hO, hbel⟩
              by_cases e : j = k
              · subst e; rw [HU.out]; exact h0
              · exact HA.out j h (by omega)
      · have h0' : u < 0 := by omega
        have hno : onlyL t.data.toList = false := by
          rw [onlyL, List.all_eq_false]
          exact ⟨t[k], by simp [ByteArray.getElem_eq_getElem_data], by rw [hu]; simpa using h0'⟩
        obtain ⟨rfl, rfl, rfl⟩ := HBAD.out hno
        replace hbw : Below w.heap.size w wr := hbw.trans (hbel.mono (by omega))
        replace BV := BV.belowB hbel (by omega)
        replace BR := BR.belowB hbel (by omega)
        have HI := Lib.hid hi
        clear h0 hi hu hno hO hbel
        obtain ⟨y0, y1, yf, yl⟩ := BR.two
        go_wp2_with (go_at_call 86; refine (HI.out _).mono ?_; rintro e w2 ⟨rfl, rfl⟩)
        have BRn := (BR.set (i := 0) (.slice none 0 0)).set (i := 1) (.slice none 0 0)
        obtain ⟨z0, z1, zf, zl⟩ := BRn.two
        refine bodyPost_ret (v := .tuple #[.agg #[.slice none 0 0, .slice none 0 0], .int .i64 6]) (by simp [results, Try.results47, go_sem, z0, z1]) rfl ?_
        exact ⟨none, none, 0, 0, rfl, .inl ⟨rfl, rfl, rfl, rfl⟩, below2 BR hbw (by omega)⟩
    · obtain rfl : k = t.size := by omega
      have hlt' : ¬ ((t.size : Int) < (t.size : Int)) := by omega
      have hyes : onlyL t.data.toList = true := by
        rw [onlyL, List.all_eq_true]
        intro x hx
        obtain ⟨j, hj, rfl⟩ := List.mem_iff_getElem.1 hx
        have hj2 : j < t.size := by simpa using hj
        have := HA.out j hj2 hj2
        simpa [ByteArray.getElem_eq_getElem_data] using this
      have g1 := HNO.out hyes
      have g2 := HYES.out hyes
      rw [tb_all] at hO
      obtain ⟨bs, hbs⟩ : ∃ bs, tb t = bs := ⟨_, rfl⟩
      have hbl : bs.length ≤ 84 := by rw [← hbs, tb_length]; omega
      have hbin : Bin bs := by rw [← hbs]; exact sbits_bin _
      have hok : rbOk p c h s t = (rbB p c h s bs && decide (rbT p bs = t.data.toList)) := by rw [rbOk, hbs]
      rw [hbs] at hO g2
      rw [hok] at g1 g2
      have G1 := Lib.hid g1
      have G2 := Lib.hid g2
      replace hbw : Below w.heap.size w wr := hbw.trans (hbel.mono (by omega))
      replace BV := BV.belowB hbel (by omega)
      replace BR := BR.belowB hbel (by omega)
      clear HA HM HBAD HNO HYES hyes g1 g2 hbs hok hlt hk hbel hz3
      generalize wr = w3 at *
      have hlw : w.heap.size + 1 < w3.heap.size := BR.lt
      clear hl1
      obtain ⟨Z, hZ⟩ : ∃ Z, zOf p = Z := ⟨_, rfl⟩
      have hZp : (Z : Int) ≤ p + 1 ∧ p + 1 ≤ (Z : Int) := by rw [← hZ]; unfold zOf; omega
      have HZ := Lib.hid hZ
      clear hZ
      go_wp2_with fail
      go_loopg [10, 11] bs.length (fun m z i wr => w3 = wr ∧ ∃ k : Nat, k ≤ bs.length ∧ m = bs.length - k ∧ i = .int .i64 k ∧ z = .int .i64 ((cib 0 (bs.take k)).length : Int) ∧ (cib 0 (bs.take k)).length < 2 * Z)
      case atStart => exact ⟨rfl, 0, by omega, by omega, rfl, by simp [cib], by simp [cib]; omega⟩
      case round =>
        obtain ⟨rfl, k, hk, hm, rfl, rfl, hcn⟩ := hrel
        have HM := Lib.hid hm
        clear hm
        by_cases hlt : k < bs.length
        · have hlt' : (k : Int) < (bs.length : Int) := by omega
          have hk0 : (0 : Int) ≤ (k : Int) := by omega
          obtain ⟨gL, lk, rfl, hgL, hlk, hlm, RL⟩ := hO.rowCap (by omega)
          clear hO
          have hc := RL.cell k hlt
          obtain ⟨q1, q2⟩ := cib_count bs k hlt
          have hv01 := hbin.getD k
          obtain ⟨v, hv⟩ : ∃ v, bs.getD k 0 = v := ⟨_, rfl⟩
          rw [hv] at hc q1 q2 hv01
          obtain ⟨n, hn⟩ : ∃ n, (cib 0 (bs.take k)).length = n := ⟨_, rfl⟩
          rw [hn] at q1 hcn ⊢
          have hnb : (n : Int) ≤ 60 := by omega
          clear hv hn hlm
          rcases hv01 with rfl | rfl
          rotate_left
          · replace q1 := q1.trans (show n + (if (1 : Int) = 1 then 0 else 1) = n by simp)
            have hne : ((n : Int) == 2 * p + 2) = false := by rw [beq_eq_false_iff_ne]; omega
            have HQ := Lib.hid q1
            clear q1 q2 hbin
            obtain ⟨x0, x1, x2, x3, xf, xl⟩ := BV.four
            go_wp2_with fail
            go_roundg (bs.length - (k + 1))
            case measure => have := HM.out; omega
            case rel => exact ⟨rfl, k + 1, by omega, rfl, by go_num, by rw [HQ.out], by rw [HQ.out]; exact hcn⟩
          · rw [if_neg (by decide)] at q1
            replace q2 := q2 (by decide)
            by_cases hit : n + 1 = 2 * Z
            rotate_left
            · have hne : ((n : Int) + 1 == 2 * p + 2) = false := by rw [beq_eq_false_iff_ne]; omega
              have HQ := Lib.hid q1
              have hcn2 : n + 1 < 2 * Z := by omega
              clear q1 q2 hbin hit
              obtain ⟨x0, x1, x2, x3, xf, xl⟩ := BV.four
              go_wp2_with fail
              go_roundg (bs.length - (k + 1))
              case measure => have := HM.out; omega
              case rel => exact ⟨rfl, k + 1, by omega, rfl, by go_num, by rw [HQ.out]; go_num, by rw [HQ.out]; exact hcn2⟩
            · have hne : ((n : Int) + 1 == 2 * p + 2) = true := by rw [beq_iff_eq]; omega
              obtain ⟨K, hK⟩ : ∃ K, k + 1 = K := ⟨_, rfl⟩
              have wk : IntKind.i64.wrap ((k : Int) + 1) = (K : Int) := by rw [IntWalk.i64_in _ (by omega)]; omega
              rw [hK] at q1 q2
              rw [hit] at q1
              obtain ⟨t1, t2, t3⟩ := cib_part_take bs K Z q2 q1
              obtain ⟨X2, hX2⟩ : ∃ X2, cX p bs = X2 := ⟨_, rfl⟩
              obtain ⟨Y2, hY2⟩ : ∃ Y2, cY p bs = Y2 := ⟨_, rfl⟩
              obtain ⟨R, hR⟩ : ∃ R, isB p c h s X2 Y2 = R := ⟨_, rfl⟩
              have hB : rbB p c h s bs = R := by rw [rbB, HZ.out, decide_eq_true t3, Bool.true_and, hX2, hY2, hR]
              have hT : rbT p bs = idS (bitsL X2 ++ bitsL Y2) := by rw [rbT, hX2, hY2]
              have hlb : ∀ (a cap : Nat) W, Row W a bs → Calls Try.prog 85 #[.agg #[.int .i64 p, .int .i64 c, .int .i64 h, .int .i64 s], .slice (some ⟨a, 0, none⟩) K cap] W (BoardGot2 X2 Y2 (.bool R) W) := by
                intro a cap W hq
                have z1 : zOf p = Z := HZ.out
                have e1 : X2 = (cib 0 (bs.take K)).take Z := by rw [← hX2, cX, z1, t1]
                have e2 : Y2 = (cib 0 (bs.take K)).drop Z := by rw [← hY2, cY, z1, t2]
                have q := l03Board_any p.toNat c h s (some ⟨a, 0, none⟩) K cap (bs.take K) (cib 0 (bs.take K)) X2 Y2 Z (trl 0 (bs.take K)) R W (by simp; omega) (by omega) rfl rfl (by rw [← z1]; unfold zOf; omega) (by omega)
                  (.inl ⟨q2, q1, e1, e2, by rw [show ((p.toNat : Nat) : Int) = p by omega]; exact hR⟩) (by have := hq.sub (o := 0) (m := K) (by omega); simpa using this)
                rw [show ((p.toNat : Nat) : Int) = p by omega] at q
                exact q
              have HLB := Lib.hid hlb
              have g1 := G1.out
              have g2 := G2.out
              rw [hB, hT] at g1 g2
              rw [hX2, hY2] at g2
              have hlkK : K ≤ lk := by omega
              have hKI : (K : Int) ≤ (lk : Int) := by omega
              have hK0 : (0 : Int) ≤ (K : Int) := by omega
              clear hlb q1 q2 t1 t2 t3 hX2 hY2 hB hT hbin hit hK G1 G2 hcn HM
              obtain ⟨x0, x1, x2, x3, xf, xl⟩ := BV.four
              cases R with
              | false =>
                obtain ⟨rfl, rfl, rfl⟩ := g1 (by simp)
                clear g1 g2 hR
                go_wp2_with fail
                clear x0 x1 x2 x3 xf xl hc
                generalize hwS : w3 = wS at *
                clear hwS
                obtain ⟨J, hJ⟩ : ∃ J : Act → Act → World → Prop, J = fun a a' w' => ∃ B a1 a2 k1 k2, a' = (((((((((((a.put (some 67) (.agg #[.int .i64 p, .int .i64 c, .int .i64 h, .int .i64 s])).put (some 68) (.slice (some ⟨gL, 0, none⟩) bs.length lk)).put (some 69) (.int .i64 (k : Int))).put (some 70) (.int .i64 (K : Int))).put (some 71) (.slice (some ⟨gL, 0, none⟩) K lk)).put (some 72) (.tuple #[.agg #[.slice a1 X2.length k1, .slice a2 Y2.length k2], .bool false])).put (some 66) (.tuple #[.agg #[.slice a1 X2.length k1, .slice a2 Y2.length k2], .bool false])).put (some 73) (.agg #[.slice a1 X2.length k1, .slice a2 Y2.length k2])).put (some 74) (.bool false)).put (some 12) (.pointer (some ⟨B, 0, none⟩))).put (some 13) (.bool false)) ∧ Blk w' B #[.slice a1 X2.length k1, .slice a2 Y2.length k2] 28 ∧ OBd (w.heap.size + 2) w'.heap.size w' a1 a2 X2 Y2 ∧ Blk w' w.heap.size #[.int .i64 p, .int .i64 c, .int .i64 h, .int .i64 s] 25 ∧ Blk w' (w.heap.size + 1) #[.slice none 0 0, .slice none 0 0] 28 ∧ Below w.heap.size w w' ∧ w.heap.size + 1 < B ∧ B < w'.heap.size := ⟨_, rfl⟩
                have HJ := Lib.hid hJ
                clear hJ
                refine wp_region_join J ?_ ?_
                · have hd : wS.heap.size ≤ wS.drew.heap.size ∧ wS.drew.heap.size ≤ wS.heap.size := ⟨Nat.le_refl _, Nat.le_refl _⟩
                  replace BV := BV.drew
                  replace BR := BR.drew
                  replace RL := RL.drew
                  replace hbw := hbw.drew
                  refine wp_region_held_drew (S := fun w' => w'.cell? ⟨w.heap.size, 0, none⟩ = some (.int .i64 p) ∧ w'.cell? ⟨w.heap.size, 1, none⟩ = some (.int .i64 c) ∧ w'.cell? ⟨w.heap.size, 2, none⟩ = some (.int .i64 h) ∧ w'.cell? ⟨w.heap.size, 3, none⟩ = some (.int .i64 s)) (by kernel_rfl) ⟨BV.four.1, BV.four.2.1, BV.four.2.2.1, BV.four.2.2.2.1⟩ (fun hHeld => ?_)
                  clear hHeld
                  generalize wS.drew = vd at *
                  have hHeld := (show vd.cell? ⟨w.heap.size, 0, none⟩ = some (.int .i64 p) ∧ vd.cell? ⟨w.heap.size, 1, none⟩ = some (.int .i64 c) ∧ vd.cell? ⟨w.heap.size, 2, none⟩ = some (.int .i64 h) ∧ vd.cell? ⟨w.heap.size, 3, none⟩ = some (.int .i64 s) from ⟨BV.four.1, BV.four.2.1, BV.four.2.2.1, BV.four.2.2.2.1⟩)
                  refine wpAnyH_take (i := 0) (oi := { dst := some 67, op := _, type := _, pos := _, after := _, guard := _ }) (v := ?_) rfl (by kernel_rfl) (by kernel_rfl) (by kernel_rfl) (fun _ _ _ h => absurd h.1 (by simp)) (Or.inl ⟨by rfl, ?_⟩) (by assumption) ?_
                  rotate_left
                  · intro w hSw
                    (try dsimp only at hSw)
                    go_simp
                    (try (with_reducible rfl))
                  try simp only [Act.put, List.setIfInBounds_toArray, List.set_cons_zero, List.set_cons_succ]
                  refine wpAnyH_take (i := 1) (oi := { dst := some 68, op := _, type := _, pos := _, after := _, guard := _ }) (v := ?_) rfl (by kernel_rfl) (by kernel_rfl) (by kernel_rfl) (fun _ _ _ h => absurd h.1 (by simp)) (Or.inl ⟨by rfl, ?_⟩) (by assumption) ?_
                  rotate_left
                  · intro w hSw
                    (try dsimp only at hSw)
                    go_simp
                    (try (with_reducible rfl))
                  try simp only [Act.put, List.setIfInBounds_toArray, List.set_cons_zero, List.set_cons_succ]
                  refine wpAnyH_take (i := 2) (oi := { dst := some 69, op := _, type := _, pos := _, after := _, guard := _ }) (v := ?_) rfl (by kernel_rfl) (by kernel_rfl) (by kernel_rfl) (fun _ _ _ h => absurd h.1 (by simp)) (Or.inl ⟨by rfl, ?_⟩) (by assumption) ?_
                  rotate_left
                  · intro w hSw
                    (try dsimp only at hSw)
                    go_simp
                    (try (with_reducible rfl))
                  try simp only [Act.put, List.setIfInBounds_toArray, List.set_cons_zero, List.set_cons_succ]
                  refine wpAnyH_take (i := 3) (oi := { dst := some 70, op := _, type := _, pos := _, after := _, guard := _ }) (v := ?_) rfl (by kernel_rfl) (by kernel_rfl) (by kernel_rfl) (fun _ _ _ h => absurd h.1 (by simp)) (Or.inl ⟨by rfl, ?_⟩) (by assumption) ?_
                  rotate_left
                  · intro w hSw
                    (try dsimp only at hSw)
                    go_simp
                    (try (with_reducible rfl))
                  try simp only [Act.put, List.setIfInBounds_toArray, List.set_cons_zero, List.set_cons_succ]
                  refine wpAnyH_take (i := 4) (oi := { dst := some 71, op := _, type := _, pos := _, after := _, guard := _ }) (v := ?_) rfl (by kernel_rfl) (by kernel_rfl) (by kernel_rfl) (fun _ _ _ h => absurd h.1 (by simp)) (Or.inl ⟨by rfl, ?_⟩) (by assumption) ?_
                  rotate_left
                  · intro w hSw
                    (try dsimp only at hSw)
                    go_simp
                    (try (with_reducible rfl))
                  try simp only [Act.put, List.setIfInBounds_toArray, List.set_cons_zero, List.set_cons_succ]
                  refine wpAnyH_ready (rs := [5, 9]) (by kernel_rfl) (by simp) ?_
                  refine AllReadyH.cons (o := { dst := some 72, op := _, type := _, pos := _, after := _, guard := _ }) rfl (fun K hK => ?_) (AllReadyH.cons (o := { dst := some 12, op := _, type := _, pos := _, after := _, guard := _ }) rfl (fun K hK => ?_) AllReadyH.nil)
                  · go_simp
                    refine (HLB.out _ _ _ RL).mono ?_
                    rintro e wA ⟨a1, a2, k1, k2, rfl, hO2, hbA⟩
                    replace BV := BV.below hbA
                    replace BR := BR.below hbA
                    replace hbw := chain hbw hbA
                    have hz_hbA := hbA.size
                    (try go_wp2_with fail)
                    refine hK.out _ _ ⟨BV.four.1, BV.four.2.1, BV.four.2.2.1, BV.four.2.2.2.1⟩ (fun hHeld => ?_)
                    clear hK K
                    try simp only [Act.put, List.setIfInBounds_toArray, List.set_cons_zero, List.set_cons_succ]
                    refine wpAnyH_take (i := 6) (oi := { dst := some 66, op := _, type := _, pos := _, after := _, guard := _ }) (v := ?_) rfl (by kernel_rfl) (by kernel_rfl) (by kernel_rfl) (fun _ _ _ h => absurd h.1 (by simp)) (Or.inl ⟨by rfl, ?_⟩) (by assumption) ?_
                    rotate_left
                    · intro w hSw
                      (try dsimp only at hSw)
                      go_simp
                      (try (with_reducible rfl))
                    try simp only [Act.put, List.setIfInBounds_toArray, List.set_cons_zero, List.set_cons_succ]
                    refine wpAnyH_take (i := 7) (oi := { dst := some 73, op := _, type := _, pos := _, after := _, guard := _ }) (v := ?_) rfl (by kernel_rfl) (by kernel_rfl) (by kernel_rfl) (fun _ _ _ h => absurd h.1 (by simp)) (Or.inl ⟨by rfl, ?_⟩) (by assumption) ?_
                    rotate_left
                    · intro w hSw
                      (try dsimp only at hSw)
                      go_simp
                      (try (with_reducible rfl))
                    try simp only [Act.put, List.setIfInBounds_toArray, List.set_cons_zero, List.set_cons_succ]
                    refine wpAnyH_take (i := 8) (oi := { dst := some 74, op := _, type := _, pos := _, after := _, guard := _ }) (v := ?_) rfl (by kernel_rfl) (by kernel_rfl) (by kernel_rfl) (fun _ _ _ h => absurd h.1 (by simp)) (Or.inl ⟨by rfl, ?_⟩) (by assumption) ?_
                    rotate_left
                    · intro w hSw
                      (try dsimp only at hSw)
                      go_simp
                      (try (with_reducible rfl))
                    try simp only [Act.put, List.setIfInBounds_toArray, List.set_cons_zero, List.set_cons_succ]
                    refine wpAnyH_ready (rs := [9]) (by kernel_rfl) (by simp) ?_
                    refine AllReadyH.cons (o := { dst := some 12, op := _, type := _, pos := _, after := _, guard := _ }) rfl (fun K hK => ?_) AllReadyH.nil
                    go_simp
                    refine hK.out _ _ ⟨(BV.alloc _).four.1, (BV.alloc _).four.2.1, (BV.alloc _).four.2.2.1, (BV.alloc _).four.2.2.2.1⟩ (fun hHeld => ?_)
                    clear hK K
                    try simp only [Act.put, List.setIfInBounds_toArray, List.set_cons_zero, List.set_cons_succ]
                    have BA := Blk.new wA #[.slice none 0 0, .slice none 0 0] 28
                    have hal : Below wA.heap.size wA (wA.alloc (.cells #[.slice none 0 0, .slice none 0 0] 28)) := ((Below.refl _ _).alloc (Nat.le_refl _) _)
                    have hlN : wA.heap.size + 1 ≤ (wA.alloc (.cells #[.slice none 0 0, .slice none 0 0] 28)).heap.size ∧ (wA.alloc (.cells #[.slice none 0 0, .slice none 0 0] 28)).heap.size ≤ wA.heap.size + 1 := by simp
                    replace BV := BV.below hal
                    replace BR := BR.below hal
                    replace hO2 := hO2.below hal
                    replace hbw := chain hbw hal
                    clear hal
                    generalize wA.alloc (.cells #[.slice none 0 0, .slice none 0 0] 28) = wN at *
                    refine wpAnyH_ready (rs := [10]) (by kernel_rfl) (by simp) ?_
                    refine AllReadyH.cons (o := { dst := none, op := _, type := _, pos := _, after := _, guard := _ }) rfl (fun K hK => ?_) AllReadyH.nil
                    obtain ⟨q0, q1, qf, ql⟩ := BA.two
                    go_simp
                    (try go_wp2_with fail)
                    refine hK.out _ _ ⟨(other2 BA BV (by omega)).four.1, (other2 BA BV (by omega)).four.2.1, (other2 BA BV (by omega)).four.2.2.1, (other2 BA BV (by omega)).four.2.2.2.1⟩ (fun hHeld => ?_)
                    clear hK K
                    try simp only [Act.put, List.setIfInBounds_toArray, List.set_cons_zero, List.set_cons_succ]
                    refine wpAnyH_take (i := 11) (oi := { dst := some 13, op := _, type := _, pos := _, after := _, guard := _ }) (v := ?_) rfl (by kernel_rfl) (by kernel_rfl) (by kernel_rfl) (fun _ _ _ h => absurd h.1 (by simp)) (Or.inl ⟨by rfl, ?_⟩) (by assumption) ?_
                    rotate_left
                    · intro w hSw
                      (try dsimp only at hSw)
                      go_simp
                      (try (with_reducible rfl))
                    try simp only [Act.put, List.setIfInBounds_toArray, List.set_cons_zero, List.set_cons_succ]
                    refine wpAnyH_done (by kernel_rfl) ?_ _
                    rw [HJ.out]
                    refine ⟨rfl, _, a1, a2, k1, k2, ?_, (BA.set _).set _, ((hO2.other (by omega)).other (by omega)).mono (by omega) (by simp <;> omega), other2 BA BV (by omega), other2 BA BR (by omega), below2 BA hbw (by omega), by omega, by simp; omega⟩
                    simp only [Act.put, List.setIfInBounds_toArray, List.set_cons_zero, List.set_cons_succ]
                  · go_simp
                    refine hK.out _ _ ⟨(BV.alloc _).four.1, (BV.alloc _).four.2.1, (BV.alloc _).four.2.2.1, (BV.alloc _).four.2.2.2.1⟩ (fun hHeld => ?_)
                    clear hK K
                    try simp only [Act.put, List.setIfInBounds_toArray, List.set_cons_zero, List.set_cons_succ]
                    have BA := Blk.new vd #[.slice none 0 0, .slice none 0 0] 28
                    have hal : Below vd.heap.size vd (vd.alloc (.cells #[.slice none 0 0, .slice none 0 0] 28)) := ((Below.refl _ _).alloc (Nat.le_refl _) _)
                    have hlN : vd.heap.size + 1 ≤ (vd.alloc (.cells #[.slice none 0 0, .slice none 0 0] 28)).heap.size ∧ (vd.alloc (.cells #[.slice none 0 0, .slice none 0 0] 28)).heap.size ≤ vd.heap.size + 1 := by simp
                    replace BV := BV.below hal
                    replace BR := BR.below hal
                    replace RL := RL.below hal
                    replace hbw := chain hbw hal
                    clear hal
                    generalize vd.alloc (.cells #[.slice none 0 0, .slice none 0 0] 28) = wN at *
                    refine wpAnyH_ready (rs := [5]) (by kernel_rfl) (by simp) ?_
                    refine AllReadyH.cons (o := { dst := some 72, op := _, type := _, pos := _, after := _, guard := _ }) rfl (fun K hK => ?_) AllReadyH.nil
                    go_simp
                    refine (HLB.out _ _ _ RL).mono ?_
                    rintro e wA ⟨a1, a2, k1, k2, rfl, hO2, hbA⟩
                    replace BV := BV.below hbA
                    replace BR := BR.below hbA
                    replace BA := BA.below hbA
                    replace hbw := chain hbw hbA
                    have hz_hbA := hbA.size
                    (try go_wp2_with fail)
                    refine hK.out _ _ ⟨BV.four.1, BV.four.2.1, BV.four.2.2.1, BV.four.2.2.2.1⟩ (fun hHeld => ?_)
                    clear hK K
                    try simp only [Act.put, List.setIfInBounds_toArray, List.set_cons_zero, List.set_cons_succ]
                    refine wpAnyH_take (i := 6) (oi := { dst := some 66, op := _, type := _, pos := _, after := _, guard := _ }) (v := ?_) rfl (by kernel_rfl) (by kernel_rfl) (by kernel_rfl) (fun _ _ _ h => absurd h.1 (by simp)) (Or.inl ⟨by rfl, ?_⟩) (by assumption) ?_
                    rotate_left
                    · intro w hSw
                      (try dsimp only at hSw)
                      go_simp
                      (try (with_reducible rfl))
                    try simp only [Act.put, List.setIfInBounds_toArray, List.set_cons_zero, List.set_cons_succ]
                    refine wpAnyH_take (i := 7) (oi := { dst := some 73, op := _, type := _, pos := _, after := _, guard := _ }) (v := ?_) rfl (by kernel_rfl) (by kernel_rfl) (by kernel_rfl) (fun _ _ _ h => absurd h.1 (by simp)) (Or.inl ⟨by rfl, ?_⟩) (by assumption) ?_
                    rotate_left
                    · intro w hSw
                      (try dsimp only at hSw)
                      go_simp
                      (try (with_reducible rfl))
                    try simp only [Act.put, List.setIfInBounds_toArray, List.set_cons_zero, List.set_cons_succ]
                    refine wpAnyH_take (i := 8) (oi := { dst := some 74, op := _, type := _, pos := _, after := _, guard := _ }) (v := ?_) rfl (by kernel_rfl) (by kernel_rfl) (by kernel_rfl) (fun _ _ _ h => absurd h.1 (by simp)) (Or.inl ⟨by rfl, ?_⟩) (by assumption) ?_
                    rotate_left
                    · intro w hSw
                      (try dsimp only at hSw)
                      go_simp
                      (try (with_reducible rfl))
                    try simp only [Act.put, List.setIfInBounds_toArray, List.set_cons_zero, List.set_cons_succ]
                    refine wpAnyH_ready (rs := [10]) (by kernel_rfl) (by simp) ?_
                    refine AllReadyH.cons (o := { dst := none, op := _, type := _, pos := _, after := _, guard := _ }) rfl (fun K hK => ?_) AllReadyH.nil
                    obtain ⟨q0, q1, qf, ql⟩ := BA.two
                    go_simp
                    (try go_wp2_with fail)
                    refine hK.out _ _ ⟨(other2 BA BV (by omega)).four.1, (other2 BA BV (by omega)).four.2.1, (other2 BA BV (by omega)).four.2.2.1, (other2 BA BV (by omega)).four.2.2.2.1⟩ (fun hHeld => ?_)
                    clear hK K
                    try simp only [Act.put, List.setIfInBounds_toArray, List.set_cons_zero, List.set_cons_succ]
                    refine wpAnyH_take (i := 11) (oi := { dst := some 13, op := _, type := _, pos := _, after := _, guard := _ }) (v := ?_) rfl (by kernel_rfl) (by kernel_rfl) (by kernel_rfl) (fun _ _ _ h => absurd h.1 (by simp)) (Or.inl ⟨by rfl, ?_⟩) (by assumption) ?_
                    rotate_left
                    · intro w hSw
                      (try dsimp only at hSw)
                      go_simp
                      (try (with_reducible rfl))
                    try simp only [Act.put, List.setIfInBounds_toArray, List.set_cons_zero, List.set_cons_succ]
                    refine wpAnyH_done (by kernel_rfl) ?_ _
                    rw [HJ.out]
                    refine ⟨rfl, _, a1, a2, k1, k2, ?_, (BA.set _).set _, ((hO2.other (by omega)).other (by omega)).mono (by omega) (by simp <;> omega), other2 BA BV (by omega), other2 BA BR (by omega), below2 BA hbw (by omega), by omega, by simp; omega⟩
                    simp only [Act.put, List.setIfInBounds_toArray, List.set_cons_zero, List.set_cons_succ]
                · intro a' w8 hj
                  rw [HJ.out] at hj
                  clear HJ BV BR hbw RL
                  obtain ⟨B, a1, a2, k1, k2, rfl, BX, hO2, BV, BR, hbw, hs1, hs2⟩ := hj
                  try simp only [Act.put, List.setIfInBounds_toArray, List.set_cons_zero, List.set_cons_succ]
                  obtain ⟨y0, y1, yf, yl⟩ := BR.two
                  go_wp2_with fail
                  have BRn := (BR.set (i := 0) (.slice none 0 0)).set (i := 1) (.slice none 0 0)
                  obtain ⟨z0, z1, zf, zl⟩ := BRn.two
                  refine bodyPost_ret (v := .tuple #[.agg #[.slice none 0 0, .slice none 0 0], .int .i64 4]) (by simp [results, Try.results47, go_sem, z0, z1]) rfl ?_
                  exact ⟨none, none, 0, 0, rfl, .inl ⟨rfl, rfl, rfl, rfl⟩, below2 BR hbw (by omega)⟩
              | true =>
                have hbt : ∀ (b1 b2 : Option Addr) (k1 k2 : Nat) W, IRow W b1 X2 → IRow W b2 Y2 → Calls Try.prog 76 #[.agg #[.slice b1 X2.length k1, .slice b2 Y2.length k2]] W (SliceGot (bitsL X2 ++ bitsL Y2) W) := by
                  obtain ⟨⟨f1, f2, f3⟩, ⟨f4, f5, f6⟩, f7, f8⟩ := isB_fit hR
                  exact fun b1 b2 k1 k2 W q1 q2 => l03Bits_any b1 b2 X2.length Y2.length k1 k2 X2 Y2 W rfl rfl f1 f4 (by omega) (by omega) f3 f6 q1 q2
                obtain ⟨⟨f1, f2, f3⟩, ⟨f4, f5, f6⟩, f7, f8⟩ := isB_fit hR
                have hzl : (bitsL X2 ++ bitsL Y2).length ≤ 80 := by simp; omega
                have hbn : Bin (bitsL X2 ++ bitsL Y2) := (bitsL_bin X2).append (bitsL_bin Y2)
                obtain ⟨zs, hzs⟩ : ∃ zs, bitsL X2 ++ bitsL Y2 = zs := ⟨_, rfl⟩
                rw [hzs] at hbt hzl hbn g1 g2
                have hid := fun a cap W (q : IRow W a zs) => l03Id_any a zs.length cap zs W rfl (by omega) hbn q
                obtain ⟨T, hT⟩ : ∃ T : ByteArray, ⟨(idS zs).toArray⟩ = T := ⟨_, rfl⟩
                rw [hT] at hid
                have HBT := Lib.hid hbt
                have HID := Lib.hid hid
                clear hbt hid hzs hbn hzl f1 f2 f3 f4 f5 f6 f7 f8 hR
                by_cases hD : T = t
                · have e2 : idS zs = t.data.toList := bytes_eq.1 (hT.trans hD)
                  obtain ⟨rfl, rfl, rfl⟩ := g2 (by simp [e2])
                  subst hD
                  clear e2 hT g1 g2
                  go_wp2_with fail
                  clear x0 x1 x2 x3 xf xl hc
                  generalize hwS : w3 = wS at *
                  clear hwS
                  obtain ⟨J, hJ⟩ : ∃ J : Act → Act → World → Prop, J = fun a a' w' => ∃ B a1 a2 k1 k2, a' = (((((((((((a.put (some 67) (.agg #[.int .i64 p, .int .i64 c, .int .i64 h, .int .i64 s])).put (some 68) (.slice (some ⟨gL, 0, none⟩) bs.length lk)).put (some 69) (.int .i64 (k : Int))).put (some 70) (.int .i64 (K : Int))).put (some 71) (.slice (some ⟨gL, 0, none⟩) K lk)).put (some 72) (.tuple #[.agg #[.slice a1 X.length k1, .slice a2 Y.length k2], .bool true])).put (some 66) (.tuple #[.agg #[.slice a1 X.length k1, .slice a2 Y.length k2], .bool true])).put (some 73) (.agg #[.slice a1 X.length k1, .slice a2 Y.length k2])).put (some 74) (.bool true)).put (some 12) (.pointer (some ⟨B, 0, none⟩))).put (some 13) (.bool true)) ∧ Blk w' B #[.slice a1 X.length k1, .slice a2 Y.length k2] 28 ∧ OBd (w.heap.size + 2) w'.heap.size w' a1 a2 X Y ∧ Blk w' w.heap.size #[.int .i64 p, .int .i64 c, .int .i64 h, .int .i64 s] 25 ∧ Blk w' (w.heap.size + 1) #[.slice none 0 0, .slice none 0 0] 28 ∧ Below w.heap.size w w' ∧ w.heap.size + 1 < B ∧ B < w'.heap.size := ⟨_, rfl⟩
                  have HJ := Lib.hid hJ
                  clear hJ
                  refine wp_region_join J ?_ ?_
                  · have hd : wS.heap.size ≤ wS.drew.heap.size ∧ wS.drew.heap.size ≤ wS.heap.size := ⟨Nat.le_refl _, Nat.le_refl _⟩
                    replace BV := BV.drew
                    replace BR := BR.drew
                    replace RL := RL.drew
                    replace hbw := hbw.drew
                    refine wp_region_held_drew (S := fun w' => w'.cell? ⟨w.heap.size, 0, none⟩ = some (.int .i64 p) ∧ w'.cell? ⟨w.heap.size, 1, none⟩ = some (.int .i64 c) ∧ w'.cell? ⟨w.heap.size, 2, none⟩ = some (.int .i64 h) ∧ w'.cell? ⟨w.heap.size, 3, none⟩ = some (.int .i64 s)) (by kernel_rfl) ⟨BV.four.1, BV.four.2.1, BV.four.2.2.1, BV.four.2.2.2.1⟩ (fun hHeld => ?_)
                    clear hHeld
                    generalize wS.drew = vd at *
                    have hHeld := (show vd.cell? ⟨w.heap.size, 0, none⟩ = some (.int .i64 p) ∧ vd.cell? ⟨w.heap.size, 1, none⟩ = some (.int .i64 c) ∧ vd.cell? ⟨w.heap.size, 2, none⟩ = some (.int .i64 h) ∧ vd.cell? ⟨w.heap.size, 3, none⟩ = some (.int .i64 s) from ⟨BV.four.1, BV.four.2.1, BV.four.2.2.1, BV.four.2.2.2.1⟩)
                    refine wpAnyH_take (i := 0) (oi := { dst := some 67, op := _, type := _, pos := _, after := _, guard := _ }) (v := ?_) rfl (by kernel_rfl) (by kernel_rfl) (by kernel_rfl) (fun _ _ _ h => absurd h.1 (by simp)) (Or.inl ⟨by rfl, ?_⟩) (by assumption) ?_
                    rotate_left
                    · intro w hSw
                      (try dsimp only at hSw)
                      go_simp
                      (try (with_reducible rfl))
                    try simp only [Act.put, List.setIfInBounds_toArray, List.set_cons_zero, List.set_cons_succ]
                    refine wpAnyH_take (i := 1) (oi := { dst := some 68, op := _, type := _, pos := _, after := _, guard := _ }) (v := ?_) rfl (by kernel_rfl) (by kernel_rfl) (by kernel_rfl) (fun _ _ _ h => absurd h.1 (by simp)) (Or.inl ⟨by rfl, ?_⟩) (by assumption) ?_
                    rotate_left
                    · intro w hSw
                      (try dsimp only at hSw)
                      go_simp
                      (try (with_reducible rfl))
                    try simp only [Act.put, List.setIfInBounds_toArray, List.set_cons_zero, List.set_cons_succ]
                    refine wpAnyH_take (i := 2) (oi := { dst := some 69, op := _, type := _, pos := _, after := _, guard := _ }) (v := ?_) rfl (by kernel_rfl) (by kernel_rfl) (by kernel_rfl) (fun _ _ _ h => absurd h.1 (by simp)) (Or.inl ⟨by rfl, ?_⟩) (by assumption) ?_
                    rotate_left
                    · intro w hSw
                      (try dsimp only at hSw)
                      go_simp
                      (try (with_reducible rfl))
                    try simp only [Act.put, List.setIfInBounds_toArray, List.set_cons_zero, List.set_cons_succ]
                    refine wpAnyH_take (i := 3) (oi := { dst := some 70, op := _, type := _, pos := _, after := _, guard := _ }) (v := ?_) rfl (by kernel_rfl) (by kernel_rfl) (by kernel_rfl) (fun _ _ _ h => absurd h.1 (by simp)) (Or.inl ⟨by rfl, ?_⟩) (by assumption) ?_
                    rotate_left
                    · intro w hSw
                      (try dsimp only at hSw)
                      go_simp
                      (try (with_reducible rfl))
                    try simp only [Act.put, List.setIfInBounds_toArray, List.set_cons_zero, List.set_cons_succ]
                    refine wpAnyH_take (i := 4) (oi := { dst := some 71, op := _, type := _, pos := _, after := _, guard := _ }) (v := ?_) rfl (by kernel_rfl) (by kernel_rfl) (by kernel_rfl) (fun _ _ _ h => absurd h.1 (by simp)) (Or.inl ⟨by rfl, ?_⟩) (by assumption) ?_
                    rotate_left
                    · intro w hSw
                      (try dsimp only at hSw)
                      go_simp
                      (try (with_reducible rfl))
                    try simp only [Act.put, List.setIfInBounds_toArray, List.set_cons_zero, List.set_cons_succ]
                    refine wpAnyH_ready (rs := [5, 9]) (by kernel_rfl) (by simp) ?_
                    refine AllReadyH.cons (o := { dst := some 72, op := _, type := _, pos := _, after := _, guard := _ }) rfl (fun K hK => ?_) (AllReadyH.cons (o := { dst := some 12, op := _, type := _, pos := _, after := _, guard := _ }) rfl (fun K hK => ?_) AllReadyH.nil)
                    · go_simp
                      refine (HLB.out _ _ _ RL).mono ?_
                      rintro e wA ⟨a1, a2, k1, k2, rfl, hO2, hbA⟩
                      replace BV := BV.below hbA
                      replace BR := BR.below hbA
                      replace hbw := chain hbw hbA
                      have hz_hbA := hbA.size
                      (try go_wp2_with fail)
                      refine hK.out _ _ ⟨BV.four.1, BV.four.2.1, BV.four.2.2.1, BV.four.2.2.2.1⟩ (fun hHeld => ?_)
                      clear hK K
                      try simp only [Act.put, List.setIfInBounds_toArray, List.set_cons_zero, List.set_cons_succ]
                      refine wpAnyH_take (i := 6) (oi := { dst := some 66, op := _, type := _, pos := _, after := _, guard := _ }) (v := ?_) rfl (by kernel_rfl) (by kernel_rfl) (by kernel_rfl) (fun _ _ _ h => absurd h.1 (by simp)) (Or.inl ⟨by rfl, ?_⟩) (by assumption) ?_
                      rotate_left
                      · intro w hSw
                        (try dsimp only at hSw)
                        go_simp
                        (try (with_reducible rfl))
                      try simp only [Act.put, List.setIfInBounds_toArray, List.set_cons_zero, List.set_cons_succ]
                      refine wpAnyH_take (i := 7) (oi := { dst := some 73, op := _, type := _, pos := _, after := _, guard := _ }) (v := ?_) rfl (by kernel_rfl) (by kernel_rfl) (by kernel_rfl) (fun _ _ _ h => absurd h.1 (by simp)) (Or.inl ⟨by rfl, ?_⟩) (by assumption) ?_
                      rotate_left
                      · intro w hSw
                        (try dsimp only at hSw)
                        go_simp
                        (try (with_reducible rfl))
                      try simp only [Act.put, List.setIfInBounds_toArray, List.set_cons_zero, List.set_cons_succ]
                      refine wpAnyH_take (i := 8) (oi := { dst := some 74, op := _, type := _, pos := _, after := _, guard := _ }) (v := ?_) rfl (by kernel_rfl) (by kernel_rfl) (by kernel_rfl) (fun _ _ _ h => absurd h.1 (by simp)) (Or.inl ⟨by rfl, ?_⟩) (by assumption) ?_
                      rotate_left
                      · intro w hSw
                        (try dsimp only at hSw)
                        go_simp
                        (try (with_reducible rfl))
                      try simp only [Act.put, List.setIfInBounds_toArray, List.set_cons_zero, List.set_cons_succ]
                      refine wpAnyH_ready (rs := [9]) (by kernel_rfl) (by simp) ?_
                      refine AllReadyH.cons (o := { dst := some 12, op := _, type := _, pos := _, after := _, guard := _ }) rfl (fun K hK => ?_) AllReadyH.nil
                      go_simp
                      refine hK.out _ _ ⟨(BV.alloc _).four.1, (BV.alloc _).four.2.1, (BV.alloc _).four.2.2.1, (BV.alloc _).four.2.2.2.1⟩ (fun hHeld => ?_)
                      clear hK K
                      try simp only [Act.put, List.setIfInBounds_toArray, List.set_cons_zero, List.set_cons_succ]
                      have BA := Blk.new wA #[.slice none 0 0, .slice none 0 0] 28
                      have hal : Below wA.heap.size wA (wA.alloc (.cells #[.slice none 0 0, .slice none 0 0] 28)) := ((Below.refl _ _).alloc (Nat.le_refl _) _)
                      have hlN : wA.heap.size + 1 ≤ (wA.alloc (.cells #[.slice none 0 0, .slice none 0 0] 28)).heap.size ∧ (wA.alloc (.cells #[.slice none 0 0, .slice none 0 0] 28)).heap.size ≤ wA.heap.size + 1 := by simp
                      replace BV := BV.below hal
                      replace BR := BR.below hal
                      replace hO2 := hO2.below hal
                      replace hbw := chain hbw hal
                      clear hal
                      generalize wA.alloc (.cells #[.slice none 0 0, .slice none 0 0] 28) = wN at *
                      refine wpAnyH_ready (rs := [10]) (by kernel_rfl) (by simp) ?_
                      refine AllReadyH.cons (o := { dst := none, op := _, type := _, pos := _, after := _, guard := _ }) rfl (fun K hK => ?_) AllReadyH.nil
                      obtain ⟨q0, q1, qf, ql⟩ := BA.two
                      go_simp
                      (try go_wp2_with fail)
                      refine hK.out _ _ ⟨(other2 BA BV (by omega)).four.1, (other2 BA BV (by omega)).four.2.1, (other2 BA BV (by omega)).four.2.2.1, (other2 BA BV (by omega)).four.2.2.2.1⟩ (fun hHeld => ?_)
                      clear hK K
                      try simp only [Act.put, List.setIfInBounds_toArray, List.set_cons_zero, List.set_cons_succ]
                      refine wpAnyH_take (i := 11) (oi := { dst := some 13, op := _, type := _, pos := _, after := _, guard := _ }) (v := ?_) rfl (by kernel_rfl) (by kernel_rfl) (by kernel_rfl) (fun _ _ _ h => absurd h.1 (by simp)) (Or.inl ⟨by rfl, ?_⟩) (by assumption) ?_
                      rotate_left
                      · intro w hSw
                        (try dsimp only at hSw)
                        go_simp
                        (try (with_reducible rfl))
                      try simp only [Act.put, List.setIfInBounds_toArray, List.set_cons_zero, List.set_cons_succ]
                      refine wpAnyH_done (by kernel_rfl) ?_ _
                      rw [HJ.out]
                      refine ⟨rfl, _, a1, a2, k1, k2, ?_, (BA.set _).set _, ((hO2.other (by omega)).other (by omega)).mono (by omega) (by simp <;> omega), other2 BA BV (by omega), other2 BA BR (by omega), below2 BA hbw (by omega), by omega, by simp; omega⟩
                      simp only [Act.put, List.setIfInBounds_toArray, List.set_cons_zero, List.set_cons_succ]
                    · go_simp
                      refine hK.out _ _ ⟨(BV.alloc _).four.1, (BV.alloc _).four.2.1, (BV.alloc _).four.2.2.1, (BV.alloc _).four.2.2.2.1⟩ (fun hHeld => ?_)
                      clear hK K
                      try simp only [Act.put, List.setIfInBounds_toArray, List.set_cons_zero, List.set_cons_succ]
                      have BA := Blk.new vd #[.slice none 0 0, .slice none 0 0] 28
                      have hal : Below vd.heap.size vd (vd.alloc (.cells #[.slice none 0 0, .slice none 0 0] 28)) := ((Below.refl _ _).alloc (Nat.le_refl _) _)
                      have hlN : vd.heap.size + 1 ≤ (vd.alloc (.cells #[.slice none 0 0, .slice none 0 0] 28)).heap.size ∧ (vd.alloc (.cells #[.slice none 0 0, .slice none 0 0] 28)).heap.size ≤ vd.heap.size + 1 := by simp
                      replace BV := BV.below hal
                      replace BR := BR.below hal
                      replace RL := RL.below hal
                      replace hbw := chain hbw hal
                      clear hal
                      generalize vd.alloc (.cells #[.slice none 0 0, .slice none 0 0] 28) = wN at *
                      refine wpAnyH_ready (rs := [5]) (by kernel_rfl) (by simp) ?_
                      refine AllReadyH.cons (o := { dst := some 72, op := _, type := _, pos := _, after := _, guard := _ }) rfl (fun K hK => ?_) AllReadyH.nil
                      go_simp
                      refine (HLB.out _ _ _ RL).mono ?_
                      rintro e wA ⟨a1, a2, k1, k2, rfl, hO2, hbA⟩
                      replace BV := BV.below hbA
                      replace BR := BR.below hbA
                      replace BA := BA.below hbA
                      replace hbw := chain hbw hbA
                      have hz_hbA := hbA.size
                      (try go_wp2_with fail)
                      refine hK.out _ _ ⟨BV.four.1, BV.four.2.1, BV.four.2.2.1, BV.four.2.2.2.1⟩ (fun hHeld => ?_)
                      clear hK K
                      try simp only [Act.put, List.setIfInBounds_toArray, List.set_cons_zero, List.set_cons_succ]
                      refine wpAnyH_take (i := 6) (oi := { dst := some 66, op := _, type := _, pos := _, after := _, guard := _ }) (v := ?_) rfl (by kernel_rfl) (by kernel_rfl) (by kernel_rfl) (fun _ _ _ h => absurd h.1 (by simp)) (Or.inl ⟨by rfl, ?_⟩) (by assumption) ?_
                      rotate_left
                      · intro w hSw
                        (try dsimp only at hSw)
                        go_simp
                        (try (with_reducible rfl))
                      try simp only [Act.put, List.setIfInBounds_toArray, List.set_cons_zero, List.set_cons_succ]
                      refine wpAnyH_take (i := 7) (oi := { dst := some 73, op := _, type := _, pos := _, after := _, guard := _ }) (v := ?_) rfl (by kernel_rfl) (by kernel_rfl) (by kernel_rfl) (fun _ _ _ h => absurd h.1 (by simp)) (Or.inl ⟨by rfl, ?_⟩) (by assumption) ?_
                      rotate_left
                      · intro w hSw
                        (try dsimp only at hSw)
                        go_simp
                        (try (with_reducible rfl))
                      try simp only [Act.put, List.setIfInBounds_toArray, List.set_cons_zero, List.set_cons_succ]
                      refine wpAnyH_take (i := 8) (oi := { dst := some 74, op := _, type := _, pos := _, after := _, guard := _ }) (v := ?_) rfl (by kernel_rfl) (by kernel_rfl) (by kernel_rfl) (fun _ _ _ h => absurd h.1 (by simp)) (Or.inl ⟨by rfl, ?_⟩) (by assumption) ?_
                      rotate_left
                      · intro w hSw
                        (try dsimp only at hSw)
                        go_simp
                        (try (with_reducible rfl))
                      try simp only [Act.put, List.setIfInBounds_toArray, List.set_cons_zero, List.set_cons_succ]
                      refine wpAnyH_ready (rs := [10]) (by kernel_rfl) (by simp) ?_
                      refine AllReadyH.cons (o := { dst := none, op := _, type := _, pos := _, after := _, guard := _ }) rfl (fun K hK => ?_) AllReadyH.nil
                      obtain ⟨q0, q1, qf, ql⟩ := BA.two
                      go_simp
                      (try go_wp2_with fail)
                      refine hK.out _ _ ⟨(other2 BA BV (by omega)).four.1, (other2 BA BV (by omega)).four.2.1, (other2 BA BV (by omega)).four.2.2.1, (other2 BA BV (by omega)).four.2.2.2.1⟩ (fun hHeld => ?_)
                      clear hK K
                      try simp only [Act.put, List.setIfInBounds_toArray, List.set_cons_zero, List.set_cons_succ]
                      refine wpAnyH_take (i := 11) (oi := { dst := some 13, op := _, type := _, pos := _, after := _, guard := _ }) (v := ?_) rfl (by kernel_rfl) (by kernel_rfl) (by kernel_rfl) (fun _ _ _ h => absurd h.1 (by simp)) (Or.inl ⟨by rfl, ?_⟩) (by assumption) ?_
                      rotate_left
                      · intro w hSw
                        (try dsimp only at hSw)
                        go_simp
                        (try (with_reducible rfl))
                      try simp only [Act.put, List.setIfInBounds_toArray, List.set_cons_zero, List.set_cons_succ]
                      refine wpAnyH_done (by kernel_rfl) ?_ _
                      rw [HJ.out]
                      refine ⟨rfl, _, a1, a2, k1, k2, ?_, (BA.set _).set _, ((hO2.other (by omega)).other (by omega)).mono (by omega) (by simp <;> omega), other2 BA BV (by omega), other2 BA BR (by omega), below2 BA hbw (by omega), by omega, by simp; omega⟩
                      simp only [Act.put, List.setIfInBounds_toArray, List.set_cons_zero, List.set_cons_succ]
                  · intro a' w8 hj
                    rw [HJ.out] at hj
                    clear HJ BV BR hbw RL
                    obtain ⟨B, a1, a2, k1, k2, rfl, BX, hO2, BV, BR, hbw, hs1, hs2⟩ := hj
                    try simp only [Act.put, List.setIfInBounds_toArray, List.set_cons_zero, List.set_cons_succ]
                    obtain ⟨q0, q1, qf, ql⟩ := BX.two
                    go_wp2_with fail
                    clear q0 q1 qf ql
                    refine (HBT.out _ _ _ _ _ hO2.irow1 hO2.irow2).mono ?_
                    rintro e w9 ⟨a5, k5, rfl, hO5, hb5⟩
                    replace BV := BV.below hb5
                    replace BR := BR.below hb5
                    replace BX := BX.below hb5
                    replace hO2 := hO2.below hb5
                    have hz_hb5 := hb5.size
                    replace hbw := chain hbw hb5
                    clear hb5
                    go_wp2_with fail
                    refine (HID.out _ _ _ hO5.irow).mono ?_
                    rintro e w10 ⟨rfl, rfl⟩
                    obtain ⟨y0, y1, yf, yl⟩ := BR.two
                    obtain ⟨q0, q1, qf, ql⟩ := BX.two
                    go_wp2_with fail
                    have BRn := (BR.set (i := 0) (.slice a1 X.length k1)).set (i := 1) (.slice a2 Y.length k2)
                    obtain ⟨z0, z1, zf, zl⟩ := BRn.two
                    refine bodyPost_ret (v := .tuple #[.agg #[.slice a1 X.length k1, .slice a2 Y.length k2], .int .i64 0]) (by simp [results, Try.results47, go_sem, z0, z1]) rfl ?_
                    exact ⟨a1, a2, k1, k2, rfl, ((hO2.other (B := w.heap.size + 1) (.inl (by omega))).other (B := w.heap.size + 1) (.inl (by omega))).mono (by omega) (by simp; omega), below2 BR hbw (by omega)⟩
                · have e2 : ¬ (idS zs = t.data.toList) := fun e => hD (hT.symm.trans (bytes_eq.2 e))
                  obtain ⟨rfl, rfl, rfl⟩ := g1 (by simp [e2])
                  have hne2 : (T.toList == t.toList) = false := by rw [← hT, ByteArray.toList_mk, ByteArray.toList_eq, beq_eq_false_iff_ne]; simpa using e2
                  clear e2 hT g1 g2
                  go_wp2_with fail
                  clear x0 x1 x2 x3 xf xl hc
                  generalize hwS : w3 = wS at *
                  clear hwS
                  obtain ⟨J, hJ⟩ : ∃ J : Act → Act → World → Prop, J = fun a a' w' => ∃ B a1 a2 k1 k2, a' = (((((((((((a.put (some 67) (.agg #[.int .i64 p, .int .i64 c, .int .i64 h, .int .i64 s])).put (some 68) (.slice (some ⟨gL, 0, none⟩) bs.length lk)).put (some 69) (.int .i64 (k : Int))).put (some 70) (.int .i64 (K : Int))).put (some 71) (.slice (some ⟨gL, 0, none⟩) K lk)).put (some 72) (.tuple #[.agg #[.slice a1 X2.length k1, .slice a2 Y2.length k2], .bool true])).put (some 66) (.tuple #[.agg #[.slice a1 X2.length k1, .slice a2 Y2.length k2], .bool true])).put (some 73) (.agg #[.slice a1 X2.length k1, .slice a2 Y2.length k2])).put (some 74) (.bool true)).put (some 12) (.pointer (some ⟨B, 0, none⟩))).put (some 13) (.bool true)) ∧ Blk w' B #[.slice a1 X2.length k1, .slice a2 Y2.length k2] 28 ∧ OBd (w.heap.size + 2) w'.heap.size w' a1 a2 X2 Y2 ∧ Blk w' w.heap.size #[.int .i64 p, .int .i64 c, .int .i64 h, .int .i64 s] 25 ∧ Blk w' (w.heap.size + 1) #[.slice none 0 0, .slice none 0 0] 28 ∧ Below w.heap.size w w' ∧ w.heap.size + 1 < B ∧ B < w'.heap.size := ⟨_, rfl⟩
                  have HJ := Lib.hid hJ
                  clear hJ
                  refine wp_region_join J ?_ ?_
                  · have hd : wS.heap.size ≤ wS.drew.heap.size ∧ wS.drew.heap.size ≤ wS.heap.size := ⟨Nat.le_refl _, Nat.le_refl _⟩
                    replace BV := BV.drew
                    replace BR := BR.drew
                    replace RL := RL.drew
                    replace hbw := hbw.drew
                    refine wp_region_held_drew (S := fun w' => w'.cell? ⟨w.heap.size, 0, none⟩ = some (.int .i64 p) ∧ w'.cell? ⟨w.heap.size, 1, none⟩ = some (.int .i64 c) ∧ w'.cell? ⟨w.heap.size, 2, none⟩ = some (.int .i64 h) ∧ w'.cell? ⟨w.heap.size, 3, none⟩ = some (.int .i64 s)) (by kernel_rfl) ⟨BV.four.1, BV.four.2.1, BV.four.2.2.1, BV.four.2.2.2.1⟩ (fun hHeld => ?_)
                    clear hHeld
                    generalize wS.drew = vd at *
                    have hHeld := (show vd.cell? ⟨w.heap.size, 0, none⟩ = some (.int .i64 p) ∧ vd.cell? ⟨w.heap.size, 1, none⟩ = some (.int .i64 c) ∧ vd.cell? ⟨w.heap.size, 2, none⟩ = some (.int .i64 h) ∧ vd.cell? ⟨w.heap.size, 3, none⟩ = some (.int .i64 s) from ⟨BV.four.1, BV.four.2.1, BV.four.2.2.1, BV.four.2.2.2.1⟩)
                    refine wpAnyH_take (i := 0) (oi := { dst := some 67, op := _, type := _, pos := _, after := _, guard := _ }) (v := ?_) rfl (by kernel_rfl) (by kernel_rfl) (by kernel_rfl) (fun _ _ _ h => absurd h.1 (by simp)) (Or.inl ⟨by rfl, ?_⟩) (by assumption) ?_
                    rotate_left
                    · intro w hSw
                      (try dsimp only at hSw)
                      go_simp
                      (try (with_reducible rfl))
                    try simp only [Act.put, List.setIfInBounds_toArray, List.set_cons_zero, List.set_cons_succ]
                    refine wpAnyH_take (i := 1) (oi := { dst := some 68, op := _, type := _, pos := _, after := _, guard := _ }) (v := ?_) rfl (by kernel_rfl) (by kernel_rfl) (by kernel_rfl) (fun _ _ _ h => absurd h.1 (by simp)) (Or.inl ⟨by rfl, ?_⟩) (by assumption) ?_
                    rotate_left
                    · intro w hSw
                      (try dsimp only at hSw)
                      go_simp
                      (try (with_reducible rfl))
                    try simp only [Act.put, List.setIfInBounds_toArray, List.set_cons_zero, List.set_cons_succ]
                    refine wpAnyH_take (i := 2) (oi := { dst := some 69, op := _, type := _, pos := _, after := _, guard := _ }) (v := ?_) rfl (by kernel_rfl) (by kernel_rfl) (by kernel_rfl) (fun _ _ _ h => absurd h.1 (by simp)) (Or.inl ⟨by rfl, ?_⟩) (by assumption) ?_
                    rotate_left
                    · intro w hSw
                      (try dsimp only at hSw)
                      go_simp
                      (try (with_reducible rfl))
                    try simp only [Act.put, List.setIfInBounds_toArray, List.set_cons_zero, List.set_cons_succ]
                    refine wpAnyH_take (i := 3) (oi := { dst := some 70, op := _, type := _, pos := _, after := _, guard := _ }) (v := ?_) rfl (by kernel_rfl) (by kernel_rfl) (by kernel_rfl) (fun _ _ _ h => absurd h.1 (by simp)) (Or.inl ⟨by rfl, ?_⟩) (by assumption) ?_
                    rotate_left
                    · intro w hSw
                      (try dsimp only at hSw)
                      go_simp
                      (try (with_reducible rfl))
                    try simp only [Act.put, List.setIfInBounds_toArray, List.set_cons_zero, List.set_cons_succ]
                    refine wpAnyH_take (i := 4) (oi := { dst := some 71, op := _, type := _, pos := _, after := _, guard := _ }) (v := ?_) rfl (by kernel_rfl) (by kernel_rfl) (by kernel_rfl) (fun _ _ _ h => absurd h.1 (by simp)) (Or.inl ⟨by rfl, ?_⟩) (by assumption) ?_
                    rotate_left
                    · intro w hSw
                      (try dsimp only at hSw)
                      go_simp
                      (try (with_reducible rfl))
                    try simp only [Act.put, List.setIfInBounds_toArray, List.set_cons_zero, List.set_cons_succ]
                    refine wpAnyH_ready (rs := [5, 9]) (by kernel_rfl) (by simp) ?_
                    refine AllReadyH.cons (o := { dst := some 72, op := _, type := _, pos := _, after := _, guard := _ }) rfl (fun K hK => ?_) (AllReadyH.cons (o := { dst := some 12, op := _, type := _, pos := _, after := _, guard := _ }) rfl (fun K hK => ?_) AllReadyH.nil)
                    · go_simp
                      refine (HLB.out _ _ _ RL).mono ?_
                      rintro e wA ⟨a1, a2, k1, k2, rfl, hO2, hbA⟩
                      replace BV := BV.below hbA
                      replace BR := BR.below hbA
                      replace hbw := chain hbw hbA
                      have hz_hbA := hbA.size
                      (try go_wp2_with fail)
                      refine hK.out _ _ ⟨BV.four.1, BV.four.2.1, BV.four.2.2.1, BV.four.2.2.2.1⟩ (fun hHeld => ?_)
                      clear hK K
                      try simp only [Act.put, List.setIfInBounds_toArray, List.set_cons_zero, List.set_cons_succ]
                      refine wpAnyH_take (i := 6) (oi := { dst := some 66, op := _, type := _, pos := _, after := _, guard := _ }) (v := ?_) rfl (by kernel_rfl) (by kernel_rfl) (by kernel_rfl) (fun _ _ _ h => absurd h.1 (by simp)) (Or.inl ⟨by rfl, ?_⟩) (by assumption) ?_
                      rotate_left
                      · intro w hSw
                        (try dsimp only at hSw)
                        go_simp
                        (try (with_reducible rfl))
                      try simp only [Act.put, List.setIfInBounds_toArray, List.set_cons_zero, List.set_cons_succ]
                      refine wpAnyH_take (i := 7) (oi := { dst := some 73, op := _, type := _, pos := _, after := _, guard := _ }) (v := ?_) rfl (by kernel_rfl) (by kernel_rfl) (by kernel_rfl) (fun _ _ _ h => absurd h.1 (by simp)) (Or.inl ⟨by rfl, ?_⟩) (by assumption) ?_
                      rotate_left
                      · intro w hSw
                        (try dsimp only at hSw)
                        go_simp
                        (try (with_reducible rfl))
                      try simp only [Act.put, List.setIfInBounds_toArray, List.set_cons_zero, List.set_cons_succ]
                      refine wpAnyH_take (i := 8) (oi := { dst := some 74, op := _, type := _, pos := _, after := _, guard := _ }) (v := ?_) rfl (by kernel_rfl) (by kernel_rfl) (by kernel_rfl) (fun _ _ _ h => absurd h.1 (by simp)) (Or.inl ⟨by rfl, ?_⟩) (by assumption) ?_
                      rotate_left
                      · intro w hSw
                        (try dsimp only at hSw)
                        go_simp
                        (try (with_reducible rfl))
                      try simp only [Act.put, List.setIfInBounds_toArray, List.set_cons_zero, List.set_cons_succ]
                      refine wpAnyH_ready (rs := [9]) (by kernel_rfl) (by simp) ?_
                      refine AllReadyH.cons (o := { dst := some 12, op := _, type := _, pos := _, after := _, guard := _ }) rfl (fun K hK => ?_) AllReadyH.nil
                      go_simp
                      refine hK.out _ _ ⟨(BV.alloc _).four.1, (BV.alloc _).four.2.1, (BV.alloc _).four.2.2.1, (BV.alloc _).four.2.2.2.1⟩ (fun hHeld => ?_)
                      clear hK K
                      try simp only [Act.put, List.setIfInBounds_toArray, List.set_cons_zero, List.set_cons_succ]
                      have BA := Blk.new wA #[.slice none 0 0, .slice none 0 0] 28
                      have hal : Below wA.heap.size wA (wA.alloc (.cells #[.slice none 0 0, .slice none 0 0] 28)) := ((Below.refl _ _).alloc (Nat.le_refl _) _)
                      have hlN : wA.heap.size + 1 ≤ (wA.alloc (.cells #[.slice none 0 0, .slice none 0 0] 28)).heap.size ∧ (wA.alloc (.cells #[.slice none 0 0, .slice none 0 0] 28)).heap.size ≤ wA.heap.size + 1 := by simp
                      replace BV := BV.below hal
                      replace BR := BR.below hal
                      replace hO2 := hO2.below hal
                      replace hbw := chain hbw hal
                      clear hal
                      generalize wA.alloc (.cells #[.slice none 0 0, .slice none 0 0] 28) = wN at *
                      refine wpAnyH_ready (rs := [10]) (by kernel_rfl) (by simp) ?_
                      refine AllReadyH.cons (o := { dst := none, op := _, type := _, pos := _, after := _, guard := _ }) rfl (fun K hK => ?_) AllReadyH.nil
                      obtain ⟨q0, q1, qf, ql⟩ := BA.two
                      go_simp
                      (try go_wp2_with fail)
                      refine hK.out _ _ ⟨(other2 BA BV (by omega)).four.1, (other2 BA BV (by omega)).four.2.1, (other2 BA BV (by omega)).four.2.2.1, (other2 BA BV (by omega)).four.2.2.2.1⟩ (fun hHeld => ?_)
                      clear hK K
                      try simp only [Act.put, List.setIfInBounds_toArray, List.set_cons_zero, List.set_cons_succ]
                      refine wpAnyH_take (i := 11) (oi := { dst := some 13, op := _, type := _, pos := _, after := _, guard := _ }) (v := ?_) rfl (by kernel_rfl) (by kernel_rfl) (by kernel_rfl) (fun _ _ _ h => absurd h.1 (by simp)) (Or.inl ⟨by rfl, ?_⟩) (by assumption) ?_
                      rotate_left
                      · intro w hSw
                        (try dsimp only at hSw)
                        go_simp
                        (try (with_reducible rfl))
                      try simp only [Act.put, List.setIfInBounds_toArray, List.set_cons_zero, List.set_cons_succ]
                      refine wpAnyH_done (by kernel_rfl) ?_ _
                      rw [HJ.out]
                      refine ⟨rfl, _, a1, a2, k1, k2, ?_, (BA.set _).set _, ((hO2.other (by omega)).other (by omega)).mono (by omega) (by simp <;> omega), other2 BA BV (by omega), other2 BA BR (by omega), below2 BA hbw (by omega), by omega, by simp; omega⟩
                      simp only [Act.put, List.setIfInBounds_toArray, List.set_cons_zero, List.set_cons_succ]
                    · go_simp
                      refine hK.out _ _ ⟨(BV.alloc _).four.1, (BV.alloc _).four.2.1, (BV.alloc _).four.2.2.1, (BV.alloc _).four.2.2.2.1⟩ (fun hHeld => ?_)
                      clear hK K
                      try simp only [Act.put, List.setIfInBounds_toArray, List.set_cons_zero, List.set_cons_succ]
                      have BA := Blk.new vd #[.slice none 0 0, .slice none 0 0] 28
                      have hal : Below vd.heap.size vd (vd.alloc (.cells #[.slice none 0 0, .slice none 0 0] 28)) := ((Below.refl _ _).alloc (Nat.le_refl _) _)
                      have hlN : vd.heap.size + 1 ≤ (vd.alloc (.cells #[.slice none 0 0, .slice none 0 0] 28)).heap.size ∧ (vd.alloc (.cells #[.slice none 0 0, .slice none 0 0] 28)).heap.size ≤ vd.heap.size + 1 := by simp
                      replace BV := BV.below hal
                      replace BR := BR.below hal
                      replace RL := RL.below hal
                      replace hbw := chain hbw hal
                      clear hal
                      generalize vd.alloc (.cells #[.slice none 0 0, .slice none 0 0] 28) = wN at *
                      refine wpAnyH_ready (rs := [5]) (by kernel_rfl) (by simp) ?_
                      refine AllReadyH.cons (o := { dst := some 72, op := _, type := _, pos := _, after := _, guard := _ }) rfl (fun K hK => ?_) AllReadyH.nil
                      go_simp
                      refine (HLB.out _ _ _ RL).mono ?_
                      rintro e wA ⟨a1, a2, k1, k2, rfl, hO2, hbA⟩
                      replace BV := BV.below hbA
                      replace BR := BR.below hbA
                      replace BA := BA.below hbA
                      replace hbw := chain hbw hbA
                      have hz_hbA := hbA.size
                      (try go_wp2_with fail)
                      refine hK.out _ _ ⟨BV.four.1, BV.four.2.1, BV.four.2.2.1, BV.four.2.2.2.1⟩ (fun hHeld => ?_)
                      clear hK K
                      try simp only [Act.put, List.setIfInBounds_toArray, List.set_cons_zero, List.set_cons_succ]
                      refine wpAnyH_take (i := 6) (oi := { dst := some 66, op := _, type := _, pos := _, after := _, guard := _ }) (v := ?_) rfl (by kernel_rfl) (by kernel_rfl) (by kernel_rfl) (fun _ _ _ h => absurd h.1 (by simp)) (Or.inl ⟨by rfl, ?_⟩) (by assumption) ?_
                      rotate_left
                      · intro w hSw
                        (try dsimp only at hSw)
                        go_simp
                        (try (with_reducible rfl))
                      try simp only [Act.put, List.setIfInBounds_toArray, List.set_cons_zero, List.set_cons_succ]
                      refine wpAnyH_take (i := 7) (oi := { dst := some 73, op := _, type := _, pos := _, after := _, guard := _ }) (v := ?_) rfl (by kernel_rfl) (by kernel_rfl) (by kernel_rfl) (fun _ _ _ h => absurd h.1 (by simp)) (Or.inl ⟨by rfl, ?_⟩) (by assumption) ?_
                      rotate_left
                      · intro w hSw
                        (try dsimp only at hSw)
                        go_simp
                        (try (with_reducible rfl))
                      try simp only [Act.put, List.setIfInBounds_toArray, List.set_cons_zero, List.set_cons_succ]
                      refine wpAnyH_take (i := 8) (oi := { dst := some 74, op := _, type := _, pos := _, after := _, guard := _ }) (v := ?_) rfl (by kernel_rfl) (by kernel_rfl) (by kernel_rfl) (fun _ _ _ h => absurd h.1 (by simp)) (Or.inl ⟨by rfl, ?_⟩) (by assumption) ?_
                      rotate_left
                      · intro w hSw
                        (try dsimp only at hSw)
                        go_simp
                        (try (with_reducible rfl))
                      try simp only [Act.put, List.setIfInBounds_toArray, List.set_cons_zero, List.set_cons_succ]
                      refine wpAnyH_ready (rs := [10]) (by kernel_rfl) (by simp) ?_
                      refine AllReadyH.cons (o := { dst := none, op := _, type := _, pos := _, after := _, guard := _ }) rfl (fun K hK => ?_) AllReadyH.nil
                      obtain ⟨q0, q1, qf, ql⟩ := BA.two
                      go_simp
                      (try go_wp2_with fail)
                      refine hK.out _ _ ⟨(other2 BA BV (by omega)).four.1, (other2 BA BV (by omega)).four.2.1, (other2 BA BV (by omega)).four.2.2.1, (other2 BA BV (by omega)).four.2.2.2.1⟩ (fun hHeld => ?_)
                      clear hK K
                      try simp only [Act.put, List.setIfInBounds_toArray, List.set_cons_zero, List.set_cons_succ]
                      refine wpAnyH_take (i := 11) (oi := { dst := some 13, op := _, type := _, pos := _, after := _, guard := _ }) (v := ?_) rfl (by kernel_rfl) (by kernel_rfl) (by kernel_rfl) (fun _ _ _ h => absurd h.1 (by simp)) (Or.inl ⟨by rfl, ?_⟩) (by assumption) ?_
                      rotate_left
                      · intro w hSw
                        (try dsimp only at hSw)
                        go_simp
                        (try (with_reducible rfl))
                      try simp only [Act.put, List.setIfInBounds_toArray, List.set_cons_zero, List.set_cons_succ]
                      refine wpAnyH_done (by kernel_rfl) ?_ _
                      rw [HJ.out]
                      refine ⟨rfl, _, a1, a2, k1, k2, ?_, (BA.set _).set _, ((hO2.other (by omega)).other (by omega)).mono (by omega) (by simp <;> omega), other2 BA BV (by omega), other2 BA BR (by omega), below2 BA hbw (by omega), by omega, by simp; omega⟩
                      simp only [Act.put, List.setIfInBounds_toArray, List.set_cons_zero, List.set_cons_succ]
                  · intro a' w8 hj
                    rw [HJ.out] at hj
                    clear HJ BV BR hbw RL
                    obtain ⟨B, a1, a2, k1, k2, rfl, BX, hO2, BV, BR, hbw, hs1, hs2⟩ := hj
                    try simp only [Act.put, List.setIfInBounds_toArray, List.set_cons_zero, List.set_cons_succ]
                    obtain ⟨q0, q1, qf, ql⟩ := BX.two
                    go_wp2_with fail
                    clear q0 q1 qf ql
                    refine (HBT.out _ _ _ _ _ hO2.irow1 hO2.irow2).mono ?_
                    rintro e w9 ⟨a5, k5, rfl, hO5, hb5⟩
                    replace BV := BV.below hb5
                    replace BR := BR.below hb5
                    replace BX := BX.below hb5
                    replace hO2 := hO2.below hb5
                    have hz_hb5 := hb5.size
                    replace hbw := chain hbw hb5
                    clear hb5
                    go_wp2_with fail
                    refine (HID.out _ _ _ hO5.irow).mono ?_
                    rintro e w10 ⟨rfl, rfl⟩
                    obtain ⟨y0, y1, yf, yl⟩ := BR.two
                    obtain ⟨q0, q1, qf, ql⟩ := BX.two
                    go_wp2_with fail
                    have BRn := (BR.set (i := 0) (.slice none 0 0)).set (i := 1) (.slice none 0 0)
                    obtain ⟨z0, z1, zf, zl⟩ := BRn.two
                    refine bodyPost_ret (v := .tuple #[.agg #[.slice none 0 0, .slice none 0 0], .int .i64 4]) (by simp [results, Try.results47, go_sem, z0, z1]) rfl ?_
                    exact ⟨none, none, 0, 0, rfl, .inl ⟨rfl, rfl, rfl, rfl⟩, below2 BR hbw (by omega)⟩
        · obtain rfl : k = bs.length := by omega
          have hlt' : ¬ ((bs.length : Int) < (bs.length : Int)) := by omega
          obtain ⟨la, lk, rfl, hlk, hlm⟩ := hO.formCap
          rw [List.take_length] at hcn ⊢
          have hB : rbB p c h s bs = false := by rw [rbB, HZ.out, decide_eq_false (by omega), Bool.false_and]
          obtain ⟨rfl, rfl, rfl⟩ := G1.out (by rw [hB, Bool.false_and])
          obtain ⟨n, hn⟩ : ∃ n, (cib 0 bs).length = n := ⟨_, rfl⟩
          rw [hn] at hcn ⊢
          clear hB hO hbin hn hlm HM G1 G2
          obtain ⟨y0, y1, yf, yl⟩ := BR.two
          go_wp2_with fail
          have BRn := (BR.set (i := 0) (.slice none 0 0)).set (i := 1) (.slice none 0 0)
          obtain ⟨z0, z1, zf, zl⟩ := BRn.two
          refine bodyPost_ret (v := .tuple #[.agg #[.slice none 0 0, .slice none 0 0], .int .i64 4]) (by simp [results, Try.results47, go_sem, z0, z1]) rfl ?_
          exact ⟨none, none, 0, 0, rfl, .inl ⟨rfl, rfl, rfl, rfl⟩, below2 BR hbw (by omega)⟩
end Go.Proofs.Ytkddeoifdecniaa
