/- The document's own answers for layer 18 (rank). -/
import Derived.Test.YthmcggbmeabpmaaRankOrd
import Derived.Test.YthmcggbmeabpmaaRef08All
import Derived.Test.YthmcggbmeabpmaaRef09All
import Derived.Deep.CutRange
import Derived.Test.YthmcggbmeabpmaaRankTurns
import Derived.ArgAppend
namespace Go.Proofs.Ythmcggbmeabpmaa.Ra
set_option maxRecDepth 100000
open Go.ChangeShapes Go.WideShapes Go.ChangeAt Go.RowKit
open Dec Words V4 V6 Ad Ci En Sat Ha Pe Stb Gr Mi Go.Deep
set_option linter.unusedVariables false
theorem rise_one {m n : Int} (hm : -9223372036854775808 ≤ m ∧ m ≤ 9223372036854775807) (hn : -9223372036854775808 ≤ n ∧ n ≤ 9223372036854775807) : (rise m = rise n ↔ m = n) ∧ (rise m < rise n ↔ m < n) := by unfold rise; omega
theorem fall_one {m n : Nat} (hm : m < 18446744073709551616) (hn : n < 18446744073709551616) : (fall m = fall n ↔ m = n) ∧ (fall m < fall n ↔ n < m) := by unfold fall; omega
theorem ahead_num {x y : Pr} {b : Int} {s : Nat} (h : ¬ numR x b s = numR y b s) : aheadR x y b s = decide (numR x b s < numR y b s) := by
  unfold aheadR loL cmpL placeR
  simp only []
  rw [if_neg h]
  by_cases c : numR x b s < numR y b s
  · rw [if_pos c, decide_eq_true c]; rfl
  · rw [if_neg c, decide_eq_false c]; rfl
theorem ahead_end {x y : Pr} {b : Int} {s : Nat} (h : numR x b s = numR y b s) (hb : b = 1 ∨ b = 2 ∨ b = 3 ∨ b = 4) : aheadR x y b s = decide (cmpE x.e y.e < 0) := by
  unfold aheadR loL cmpL placeR endR
  simp only []
  rw [if_pos h, if_pos hb, if_pos hb]
theorem ahead_none {x y : Pr} {b : Int} {s : Nat} (n1 : ¬ b = 1) (n2 : ¬ b = 2) (n3 : ¬ b = 3) (n4 : ¬ b = 4) : aheadR x y b s = false := by
  unfold aheadR loL cmpL placeR endR numR
  simp only []
  rw [if_neg n1, if_neg n2, if_neg n3, if_neg n4, if_neg n1, if_neg n2, if_neg n3, if_neg n4, if_pos rfl, if_neg (by omega), if_neg (by omega)]
  have := (cmpE_zero zeroE zeroE).2 rfl
  rw [this]; rfl
theorem num_1 (x : Pr) (s : Nat) : numR x 1 s = fall (mixN s (groupN x.e.a)) := by unfold numR; simp
theorem num_2 (x : Pr) (s : Nat) : numR x 2 s = rise x.g := by unfold numR; simp
theorem num_3 (x : Pr) (s : Nat) : numR x 3 s = fall (rise x.k) := by unfold numR; simp
theorem num_4 (x : Pr) (s : Nat) : numR x 4 s = rise x.t := by unfold numR; simp
theorem rcounts_any (x : Pr) (b : Int) (w : World) : Calls Try.prog 21 #[.agg #[.bool x.e.a.v6, .int .u64 x.e.a.hi, .int .u64 x.e.a.lo, .int .i64 x.e.n, .bool x.i, .int .i64 x.t, .int .i64 x.c.p, .int .i64 x.c.a, .int .i64 x.g, .int .i64 x.k], .int .i64 b] w fun e w' => e = .returned (.bool (countsR x b)) ∧ Below w.heap.size w w' := by
  have O := Lib.hid (Blk.new w #[.bool x.e.a.v6, .int .u64 x.e.a.hi, .int .u64 x.e.a.lo, .int .i64 x.e.n, .bool x.i, .int .i64 x.t, .int .i64 x.c.p, .int .i64 x.c.a, .int .i64 x.g, .int .i64 x.k] 41)
  have L0 : Hid (Lows w (w.alloc (.cells #[.bool x.e.a.v6, .int .u64 x.e.a.hi, .int .u64 x.e.a.lo, .int .i64 x.e.n, .bool x.i, .int .i64 x.t, .int .i64 x.c.p, .int .i64 x.c.a, .int .i64 x.g, .int .i64 x.k] 41))) := Lib.hid (Lows.alloc (Lows.self w) _)
  have a8 := O.out.cell (j := 8) rfl
  have a9 := O.out.cell (j := 9) rfl
  by_cases n1 : b = 1
  · subst n1
    have E : Hid (countsR x 1 = true) := Lib.hid (by unfold countsR; simp [*])
    go_enter Try.func21, Try.ntmps21
    go_wp2_with fail
    go_ret
    exact ⟨ret_b E.out.symm, L0.out⟩
  ·
    by_cases n4 : b = 4
    · subst n4
      have E : Hid (countsR x 4 = true) := Lib.hid (by unfold countsR; simp [*])
      go_enter Try.func21, Try.ntmps21
      go_wp2_with fail
      go_ret
      exact ⟨ret_b E.out.symm, L0.out⟩
    ·
      by_cases n2 : b = 2
      · subst n2
        by_cases h : 0 < x.g
        · have E : Hid (countsR x 2 = true) := Lib.hid (by unfold countsR; simp [*])
          go_enter Try.func21, Try.ntmps21
          go_wp2_with fail
          go_ret
          exact ⟨ret_b E.out.symm, L0.out⟩
        · have E : Hid (countsR x 2 = false) := Lib.hid (by unfold countsR; simp [*])
          go_enter Try.func21, Try.ntmps21
          go_wp2_with fail
          go_ret
          exact ⟨ret_b E.out.symm, L0.out⟩
      ·
        by_cases n3 : b = 3
        · subst n3
          by_cases h : 0 < x.k
          · have E : Hid (countsR x 3 = true) := Lib.hid (by unfold countsR; simp [*])
            go_enter Try.func21, Try.ntmps21
            go_wp2_with fail
            go_ret
            exact ⟨ret_b E.out.symm, L0.out⟩
          · have E : Hid (countsR x 3 = false) := Lib.hid (by unfold countsR; simp [*])
            go_enter Try.func21, Try.ntmps21
            go_wp2_with fail
            go_ret
            exact ⟨ret_b E.out.symm, L0.out⟩
        ·
          have z1 : (b == 1) = false := by rw [beq_eq_false_iff_ne]; exact n1
          have z4 : (b == 4) = false := by rw [beq_eq_false_iff_ne]; exact n4
          have z2 : (b == 2) = false := by rw [beq_eq_false_iff_ne]; exact n2
          have z3 : (b == 3) = false := by rw [beq_eq_false_iff_ne]; exact n3
          have E : Hid (countsR x b = false) := Lib.hid (by unfold countsR; simp [n1, n2, n3, n4])
          go_enter Try.func21, Try.ntmps21
          go_wp2_with fail
          go_ret
          exact ⟨ret_b E.out.symm, L0.out⟩
set_option maxHeartbeats 8000000 in
theorem rahead_any (x y : Pr) (b : Int) (s : Nat) (w : World) (hx : x.ok) (hy : y.ok) (hs : s < 18446744073709551616) : Calls Try.prog 34 #[.agg #[.bool x.e.a.v6, .int .u64 x.e.a.hi, .int .u64 x.e.a.lo, .int .i64 x.e.n, .bool x.i, .int .i64 x.t, .int .i64 x.c.p, .int .i64 x.c.a, .int .i64 x.g, .int .i64 x.k], .agg #[.bool y.e.a.v6, .int .u64 y.e.a.hi, .int .u64 y.e.a.lo, .int .i64 y.e.n, .bool y.i, .int .i64 y.t, .int .i64 y.c.p, .int .i64 y.c.a, .int .i64 y.g, .int .i64 y.k], .int .i64 b, .int .u64 (s : Nat)] w fun e w' => e = .returned (.bool (aheadR x y b s)) ∧ Below w.heap.size w w' := by
  have O1 : Hid (Blk ((w.alloc (.cells #[.bool x.e.a.v6, .int .u64 x.e.a.hi, .int .u64 x.e.a.lo, .int .i64 x.e.n, .bool x.i, .int .i64 x.t, .int .i64 x.c.p, .int .i64 x.c.a, .int .i64 x.g, .int .i64 x.k] 41)).alloc (.cells #[.bool y.e.a.v6, .int .u64 y.e.a.hi, .int .u64 y.e.a.lo, .int .i64 y.e.n, .bool y.i, .int .i64 y.t, .int .i64 y.c.p, .int .i64 y.c.a, .int .i64 y.g, .int .i64 y.k] 41)) w.heap.size 41 [.bool x.e.a.v6, .int .u64 x.e.a.hi, .int .u64 x.e.a.lo, .int .i64 x.e.n, .bool x.i, .int .i64 x.t, .int .i64 x.c.p, .int .i64 x.c.a, .int .i64 x.g, .int .i64 x.k]) := Lib.hid (Blk.on (Blk.new w #[.bool x.e.a.v6, .int .u64 x.e.a.hi, .int .u64 x.e.a.lo, .int .i64 x.e.n, .bool x.i, .int .i64 x.t, .int .i64 x.c.p, .int .i64 x.c.a, .int .i64 x.g, .int .i64 x.k] 41) (Lows.alloc (Lows.self _) _))
  have O2 : Hid (Blk ((w.alloc (.cells #[.bool x.e.a.v6, .int .u64 x.e.a.hi, .int .u64 x.e.a.lo, .int .i64 x.e.n, .bool x.i, .int .i64 x.t, .int .i64 x.c.p, .int .i64 x.c.a, .int .i64 x.g, .int .i64 x.k] 41)).alloc (.cells #[.bool y.e.a.v6, .int .u64 y.e.a.hi, .int .u64 y.e.a.lo, .int .i64 y.e.n, .bool y.i, .int .i64 y.t, .int .i64 y.c.p, .int .i64 y.c.a, .int .i64 y.g, .int .i64 y.k] 41)) (w.heap.size + 1) 41 [.bool y.e.a.v6, .int .u64 y.e.a.hi, .int .u64 y.e.a.lo, .int .i64 y.e.n, .bool y.i, .int .i64 y.t, .int .i64 y.c.p, .int .i64 y.c.a, .int .i64 y.g, .int .i64 y.k]) := Lib.hid (Blk.two w (.cells #[.bool x.e.a.v6, .int .u64 x.e.a.hi, .int .u64 x.e.a.lo, .int .i64 x.e.n, .bool x.i, .int .i64 x.t, .int .i64 x.c.p, .int .i64 x.c.a, .int .i64 x.g, .int .i64 x.k] 41) #[.bool y.e.a.v6, .int .u64 y.e.a.hi, .int .u64 y.e.a.lo, .int .i64 y.e.n, .bool y.i, .int .i64 y.t, .int .i64 y.c.p, .int .i64 y.c.a, .int .i64 y.g, .int .i64 y.k] 41)
  have L0 : Hid (Lows w ((w.alloc (.cells #[.bool x.e.a.v6, .int .u64 x.e.a.hi, .int .u64 x.e.a.lo, .int .i64 x.e.n, .bool x.i, .int .i64 x.t, .int .i64 x.c.p, .int .i64 x.c.a, .int .i64 x.g, .int .i64 x.k] 41)).alloc (.cells #[.bool y.e.a.v6, .int .u64 y.e.a.hi, .int .u64 y.e.a.lo, .int .i64 y.e.n, .bool y.i, .int .i64 y.t, .int .i64 y.c.p, .int .i64 y.c.a, .int .i64 y.g, .int .i64 y.k] 41))) := Lib.hid (Lows.alloc (Lows.alloc (Lows.self w) _) _)
  have KE := Lib.hid (fun W => rcompareE_any x.e y.e W hx.1 hy.1)
  by_cases n1 : b = 1
  · subst n1
    have C1 := Lib.hid (fun W => rgroupOf_any x.e.a W hx.1.1)
    have C2 := Lib.hid (fun W => rnet_any s (groupN x.e.a) W hs)
    have C3 := Lib.hid (fun W => rgroupOf_any y.e.a W hy.1.1)
    have C4 := Lib.hid (fun W => rnet_any s (groupN y.e.a) W hs)
    obtain ⟨p, hp⟩ : ∃ p, p = mixN s (groupN x.e.a) := ⟨_, rfl⟩
    obtain ⟨q, hq⟩ : ∃ q, q = mixN s (groupN y.e.a) := ⟨_, rfl⟩
    have hpl : p < 18446744073709551616 := by rw [hp]; exact mixN_lt _ _
    have hql : q < 18446744073709551616 := by rw [hq]; exact mixN_lt _ _
    have n1x : numR x 1 s = fall p := by rw [num_1, hp]
    have n1y : numR y 1 s = fall q := by rw [num_1, hq]
    rw [← hp] at C2
    rw [← hq] at C4
    have HPQ := Lib.hid (And.intro hp hq)
    generalize groupN x.e.a = G1 at C1 C2
    generalize groupN y.e.a = G2 at C3 C4
    clear hp hq
    by_cases h : p = q
    · have E : Hid (aheadR x y 1 s = decide (cmpE x.e y.e < 0)) := Lib.hid (ahead_end (by rw [n1x, n1y, h]) (by omega))
      have hz : ((p : Int) != (q : Int)) = false := by rw [h]; simp
      clear n1x n1y h hx hy hpl hql HPQ
      generalize aheadR x y 1 s = RR at E ⊢
      generalize cmpE x.e y.e = r at KE E
      have a0 := O1.out.cell (j := 0) rfl
      have a1 := O1.out.cell (j := 1) rfl
      have a2 := O1.out.cell (j := 2) rfl
      have b0 := O2.out.cell (j := 0) rfl
      have b1 := O2.out.cell (j := 1) rfl
      have b2 := O2.out.cell (j := 2) rfl
      go_enter Try.func34, Try.ntmps34
      go_wp2_with fail
      refine (C1.out _).mono ?_; rintro e w1 ⟨rfl, hb1⟩
      have L1 := Lib.hid (low_trans L0.out hb1)
      have P1 := Lib.hid (O1.out.on hb1)
      have P2 := Lib.hid (O2.out.on hb1)
      clear hb1 L0 O1 O2 C1
      clear a0 a1 a2 b0 b1 b2
      go_wp2_with fail
      refine (C2.out _).mono ?_; rintro e w2 ⟨rfl, hb2⟩
      have L2 := Lib.hid (low_trans L1.out hb2)
      have Q1 := Lib.hid (P1.out.on hb2)
      have Q2 := Lib.hid (P2.out.on hb2)
      clear hb2 L1 P1 P2 C2
      have P1 := Q1
      have P2 := Q2
      clear Q1 Q2
      have a0 := P1.out.cell (j := 0) rfl
      have a1 := P1.out.cell (j := 1) rfl
      have a2 := P1.out.cell (j := 2) rfl
      have b0 := P2.out.cell (j := 0) rfl
      have b1 := P2.out.cell (j := 1) rfl
      have b2 := P2.out.cell (j := 2) rfl
      go_wp2_with fail
      refine (C3.out _).mono ?_; rintro e w3 ⟨rfl, hb3⟩
      have L3 := Lib.hid (low_trans L2.out hb3)
      have Q1 := Lib.hid (P1.out.on hb3)
      have Q2 := Lib.hid (P2.out.on hb3)
      clear hb3 L2 P1 P2 C3
      have P1 := Q1
      have P2 := Q2
      clear Q1 Q2
      clear a0 a1 a2 b0 b1 b2
      go_wp2_with fail
      refine (C4.out _).mono ?_; rintro e w4 ⟨rfl, hb4⟩
      have L4 := Lib.hid (low_trans L3.out hb4)
      have Q1 := Lib.hid (P1.out.on hb4)
      have Q2 := Lib.hid (P2.out.on hb4)
      clear hb4 L3 P1 P2 C4
      have P1 := Q1
      have P2 := Q2
      clear Q1 Q2
      have a0 := P1.out.cell (j := 0) rfl
      have a1 := P1.out.cell (j := 1) rfl
      have a2 := P1.out.cell (j := 2) rfl
      have a3 := P1.out.cell (j := 3) rfl
      have b0 := P2.out.cell (j := 0) rfl
      have b1 := P2.out.cell (j := 1) rfl
      have b2 := P2.out.cell (j := 2) rfl
      have b3 := P2.out.cell (j := 3) rfl
      go_wp2_with fail
      refine (KE.out _).mono ?_; rintro e w5 ⟨rfl, hb5⟩
      go_wp2_with fail
      go_ret
      exact ⟨ret_b E.out.symm, low_trans L4.out hb5⟩
    · have E : Hid (aheadR x y 1 s = decide (q < p)) := Lib.hid (by rw [ahead_num (by rw [n1x, n1y]; exact fun e => h ((fall_one hpl hql).1.1 e)), decide_eq_decide, n1x, n1y, (fall_one hpl hql).2])
      have hz : ((p : Int) != (q : Int)) = true := by rw [bne_iff_ne]; omega
      clear n1x n1y h hx hy hpl hql HPQ KE
      generalize aheadR x y 1 s = RR at E ⊢
      have a0 := O1.out.cell (j := 0) rfl
      have a1 := O1.out.cell (j := 1) rfl
      have a2 := O1.out.cell (j := 2) rfl
      have b0 := O2.out.cell (j := 0) rfl
      have b1 := O2.out.cell (j := 1) rfl
      have b2 := O2.out.cell (j := 2) rfl
      go_enter Try.func34, Try.ntmps34
      go_wp2_with fail
      refine (C1.out _).mono ?_; rintro e w1 ⟨rfl, hb1⟩
      have L1 := Lib.hid (low_trans L0.out hb1)
      have P1 := Lib.hid (O1.out.on hb1)
      have P2 := Lib.hid (O2.out.on hb1)
      clear hb1 L0 O1 O2 C1
      clear a0 a1 a2 b0 b1 b2
      go_wp2_with fail
      refine (C2.out _).mono ?_; rintro e w2 ⟨rfl, hb2⟩
      have L2 := Lib.hid (low_trans L1.out hb2)
      have Q1 := Lib.hid (P1.out.on hb2)
      have Q2 := Lib.hid (P2.out.on hb2)
      clear hb2 L1 P1 P2 C2
      have P1 := Q1
      have P2 := Q2
      clear Q1 Q2
      have a0 := P1.out.cell (j := 0) rfl
      have a1 := P1.out.cell (j := 1) rfl
      have a2 := P1.out.cell (j := 2) rfl
      have b0 := P2.out.cell (j := 0) rfl
      have b1 := P2.out.cell (j := 1) rfl
      have b2 := P2.out.cell (j := 2) rfl
      go_wp2_with fail
      refine (C3.out _).mono ?_; rintro e w3 ⟨rfl, hb3⟩
      have L3 := Lib.hid (low_trans L2.out hb3)
      have Q1 := Lib.hid (P1.out.on hb3)
      have Q2 := Lib.hid (P2.out.on hb3)
      clear hb3 L2 P1 P2 C3
      have P1 := Q1
      have P2 := Q2
      clear Q1 Q2
      clear a0 a1 a2 b0 b1 b2
      go_wp2_with fail
      refine (C4.out _).mono ?_; rintro e w4 ⟨rfl, hb4⟩
      have L4 := Lib.hid (low_trans L3.out hb4)
      have Q1 := Lib.hid (P1.out.on hb4)
      have Q2 := Lib.hid (P2.out.on hb4)
      clear hb4 L3 P1 P2 C4
      have P1 := Q1
      have P2 := Q2
      clear Q1 Q2
      have a0 := P1.out.cell (j := 0) rfl
      have a1 := P1.out.cell (j := 1) rfl
      have a2 := P1.out.cell (j := 2) rfl
      have a3 := P1.out.cell (j := 3) rfl
      have b0 := P2.out.cell (j := 0) rfl
      have b1 := P2.out.cell (j := 1) rfl
      have b2 := P2.out.cell (j := 2) rfl
      have b3 := P2.out.cell (j := 3) rfl
      go_wp2_with fail
      go_ret
      exact ⟨ret_b E.out.symm, L4.out⟩
  ·
    by_cases n2 : b = 2
    · subst n2
      by_cases h : x.g = y.g
      · have E : Hid (aheadR x y 2 s = decide (cmpE x.e y.e < 0)) := Lib.hid (ahead_end (by rw [num_2, num_2]; exact by rw [h]) (by omega))
        generalize aheadR x y 2 s = RR at E ⊢
        generalize cmpE x.e y.e = r at KE E
        have hz : ((x.g) != (y.g)) = false := by rw [h]; simp
        have hz2 : ((y.g) != (x.g)) = false := by rw [h]; simp
        have HH := Lib.hid h
        clear h hx hy
        have a0 := O1.out.cell (j := 0) rfl
        have a1 := O1.out.cell (j := 1) rfl
        have a2 := O1.out.cell (j := 2) rfl
        have a3 := O1.out.cell (j := 3) rfl
        have a8 := O1.out.cell (j := 8) rfl
        have b0 := O2.out.cell (j := 0) rfl
        have b1 := O2.out.cell (j := 1) rfl
        have b2 := O2.out.cell (j := 2) rfl
        have b3 := O2.out.cell (j := 3) rfl
        have b8 := O2.out.cell (j := 8) rfl
        go_enter Try.func34, Try.ntmps34
        go_wp2_with fail
        refine (KE.out _).mono ?_; rintro e w1 ⟨rfl, hb1⟩
        go_wp2_with fail
        go_ret
        exact ⟨ret_b E.out.symm, low_trans L0.out hb1⟩
      · have E : Hid (aheadR x y 2 s = decide (x.g < y.g)) := Lib.hid (by rw [ahead_num (by rw [num_2, num_2]; exact fun e => h ((rise_one hx.2.2.2.1 hy.2.2.2.1).1.1 e)), decide_eq_decide, num_2, num_2]; exact (rise_one hx.2.2.2.1 hy.2.2.2.1).2)
        generalize aheadR x y 2 s = RR at E ⊢
        have hz : ((x.g) != (y.g)) = true := by rw [bne_iff_ne]; omega
        clear h hx hy KE
        have a8 := O1.out.cell (j := 8) rfl
        have b8 := O2.out.cell (j := 8) rfl
        go_enter Try.func34, Try.ntmps34
        go_wp2_with fail
        go_ret
        exact ⟨ret_b E.out.symm, L0.out⟩
    ·
      by_cases n3 : b = 3
      · subst n3
        by_cases h : x.k = y.k
        · have E : Hid (aheadR x y 3 s = decide (cmpE x.e y.e < 0)) := Lib.hid (ahead_end (by rw [num_3, num_3]; exact by rw [h]) (by omega))
          generalize aheadR x y 3 s = RR at E ⊢
          generalize cmpE x.e y.e = r at KE E
          have hz : ((y.k) != (x.k)) = false := by rw [h]; simp
          have hz2 : ((x.k) != (y.k)) = false := by rw [h]; simp
          have HH := Lib.hid h
          clear h hx hy
          have a0 := O1.out.cell (j := 0) rfl
          have a1 := O1.out.cell (j := 1) rfl
          have a2 := O1.out.cell (j := 2) rfl
          have a3 := O1.out.cell (j := 3) rfl
          have a9 := O1.out.cell (j := 9) rfl
          have b0 := O2.out.cell (j := 0) rfl
          have b1 := O2.out.cell (j := 1) rfl
          have b2 := O2.out.cell (j := 2) rfl
          have b3 := O2.out.cell (j := 3) rfl
          have b9 := O2.out.cell (j := 9) rfl
          go_enter Try.func34, Try.ntmps34
          go_wp2_with fail
          refine (KE.out _).mono ?_; rintro e w1 ⟨rfl, hb1⟩
          go_wp2_with fail
          go_ret
          exact ⟨ret_b E.out.symm, low_trans L0.out hb1⟩
        · have E : Hid (aheadR x y 3 s = decide (y.k < x.k)) := Lib.hid (by rw [ahead_num (by rw [num_3, num_3]; exact fun e => h ((rise_one hx.2.2.2.2 hy.2.2.2.2).1.1 ((fall_one (rise_lt hx.2.2.2.2) (rise_lt hy.2.2.2.2)).1.1 e))), decide_eq_decide, num_3, num_3]; exact ((fall_one (rise_lt hx.2.2.2.2) (rise_lt hy.2.2.2.2)).2).trans (rise_one hy.2.2.2.2 hx.2.2.2.2).2)
          generalize aheadR x y 3 s = RR at E ⊢
          have hz : ((y.k) != (x.k)) = true := by rw [bne_iff_ne]; omega
          clear h hx hy KE
          have a9 := O1.out.cell (j := 9) rfl
          have b9 := O2.out.cell (j := 9) rfl
          go_enter Try.func34, Try.ntmps34
          go_wp2_with fail
          go_ret
          exact ⟨ret_b E.out.symm, L0.out⟩
      ·
        by_cases n4 : b = 4
        · subst n4
          by_cases h : x.t = y.t
          · have E : Hid (aheadR x y 4 s = decide (cmpE x.e y.e < 0)) := Lib.hid (ahead_end (by rw [num_4, num_4]; exact by rw [h]) (by omega))
            generalize aheadR x y 4 s = RR at E ⊢
            generalize cmpE x.e y.e = r at KE E
            have hz : ((x.t) != (y.t)) = false := by rw [h]; simp
            have hz2 : ((y.t) != (x.t)) = false := by rw [h]; simp
            have HH := Lib.hid h
            clear h hx hy
            have a0 := O1.out.cell (j := 0) rfl
            have a1 := O1.out.cell (j := 1) rfl
            have a2 := O1.out.cell (j := 2) rfl
            have a3 := O1.out.cell (j := 3) rfl
            have a5 := O1.out.cell (j := 5) rfl
            have b0 := O2.out.cell (j := 0) rfl
            have b1 := O2.out.cell (j := 1) rfl
            have b2 := O2.out.cell (j := 2) rfl
            have b3 := O2.out.cell (j := 3) rfl
            have b5 := O2.out.cell (j := 5) rfl
            go_enter Try.func34, Try.ntmps34
            go_wp2_with fail
            refine (KE.out _).mono ?_; rintro e w1 ⟨rfl, hb1⟩
            go_wp2_with fail
            go_ret
            exact ⟨ret_b E.out.symm, low_trans L0.out hb1⟩
          · have E : Hid (aheadR x y 4 s = decide (x.t < y.t)) := Lib.hid (by rw [ahead_num (by rw [num_4, num_4]; exact fun e => h ((rise_one hx.2.1 hy.2.1).1.1 e)), decide_eq_decide, num_4, num_4]; exact (rise_one hx.2.1 hy.2.1).2)
            generalize aheadR x y 4 s = RR at E ⊢
            have hz : ((x.t) != (y.t)) = true := by rw [bne_iff_ne]; omega
            clear h hx hy KE
            have a5 := O1.out.cell (j := 5) rfl
            have b5 := O2.out.cell (j := 5) rfl
            go_enter Try.func34, Try.ntmps34
            go_wp2_with fail
            go_ret
            exact ⟨ret_b E.out.symm, L0.out⟩
        ·
          have z1 : (b == 1) = false := by rw [beq_eq_false_iff_ne]; exact n1
          have z2 : (b == 2) = false := by rw [beq_eq_false_iff_ne]; exact n2
          have z3 : (b == 3) = false := by rw [beq_eq_false_iff_ne]; exact n3
          have z4 : (b == 4) = false := by rw [beq_eq_false_iff_ne]; exact n4
          rw [ahead_none n1 n2 n3 n4]
          clear KE hx hy
          go_enter Try.func34, Try.ntmps34
          go_wp2_with fail
          go_ret
          exact ⟨rfl, L0.out⟩
end Go.Proofs.Ythmcggbmeabpmaa.Ra
/- The document's own answers for layer 18 (rank): Rank, First; lists of numbers compared. -/
namespace Go.Proofs.Ythmcggbmeabpmaa.Ra
set_option maxRecDepth 100000
open Go.ChangeShapes Go.WideShapes Go.ChangeAt Go.RowKit
open Dec Words V4 V6 Ad Ci En Sat Ha Pe Stb Gr Mi Go.Deep
set_option linter.unusedVariables false
set_option maxHeartbeats 8000000 in
theorem rrank_any (v : Value) (l : List Pr) (i b : Int) (s : Nat) (w : World) (h : Peers w v l) (hok : ∀ x ∈ l, x.ok) (hl : l.length ≤ 1000000) (hs : s < 18446744073709551616) :
    Calls Try.prog 22 #[v, .int .i64 i, .int .i64 b, .int .u64 (s : Nat)] w fun e w' => e = .returned (.int .i64 (rankR l i b s)) ∧ Below w.heap.size w w' := by
  obtain ⟨A, c, rfl, hc, _, hcell⟩ := h
  have HC := Lib.hid hcell
  have HOK := Lib.hid hok
  have HS := Lib.hid hs
  clear hcell hok hs
  by_cases hi0 : i < 0
  · rw [show rankR l i b s = -1 by unfold rankR; rw [if_neg (by omega)]]
    go_enter Try.func22, Try.ntmps22
    go_wp2_with fail
    go_ret
    exact ⟨rfl, Below.refl _ _⟩
  · by_cases hi1 : i < (l.length : Int)
    · obtain ⟨k, rfl⟩ : ∃ k : Nat, i = (k : Int) := ⟨i.toNat, by omega⟩
      have E : Hid (rankR l k b s = ((beforeR l k b s l.length).length : Int)) := Lib.hid (by unfold rankR; rw [if_pos (by omega), Int.toNat_natCast])
      generalize rankR l k b s = RR at E ⊢
      have hlk : k < l.length := by omega
      have hkz : (k : Int) < (l.length : Int) := hi1
      have hkz2 : ¬ (l.length : Int) ≤ (k : Int) := by omega
      clear hi0 hi1
      go_enter Try.func22, Try.ntmps22
      go_wp2_with fail
      go_loopw [9, 10] (fun vc vi wr => ∃ (j : Nat) (m : Nat), vc = .int .i64 m ∧ vi = .int .i64 j ∧ j ≤ l.length ∧ m ≤ j ∧ Hid (m = (beforeR l k b s j).length) ∧ Hid (Below w.heap.size w wr)) (fun _ vi _ => l.length - (intOf vi).toNat)
      case atStart => exact ⟨0, 0, rfl, rfl, Nat.zero_le _, Nat.le_refl _, Lib.hid rfl, Lib.hid (Below.refl _ _)⟩
      case round =>
        obtain ⟨j, m, rfl, rfl, hj, hmj, HM, HL⟩ := hrel
        by_cases hlj : j < l.length
        · have hljz : (j : Int) < (l.length : Int) := by omega
          obtain ⟨bb, o, rfl, hb, hcc⟩ := HC.out (by omega)
          have hne : Nonempty (Cls (Lows wr)) := ⟨⟨_, Lows.self _⟩⟩
          obtain ⟨x, hx⟩ : ∃ x, x = l[j]! := ⟨_, rfl⟩
          have hokx : x.ok := by rw [hx, getElem!_pos l j hlj]; exact HOK.out _ (List.getElem_mem _)
          have f0 : ∀ nq : Cls (Lows wr), nq.w.cell? ⟨bb, o + j * 10, none⟩ = some (.bool x.e.a.v6) := fun nq => by rw [hx]; exact peer_at (low_trans'' HL.out nq.h) hb hcc hlj (j := 0) rfl
          have f1 : ∀ nq : Cls (Lows wr), nq.w.cell? ⟨bb, o + j * 10 + 1, none⟩ = some (.int .u64 x.e.a.hi) := fun nq => by rw [hx]; exact peer_at (low_trans'' HL.out nq.h) hb hcc hlj (j := 1) rfl
          have f2 : ∀ nq : Cls (Lows wr), nq.w.cell? ⟨bb, o + j * 10 + 2, none⟩ = some (.int .u64 x.e.a.lo) := fun nq => by rw [hx]; exact peer_at (low_trans'' HL.out nq.h) hb hcc hlj (j := 2) rfl
          have f3 : ∀ nq : Cls (Lows wr), nq.w.cell? ⟨bb, o + j * 10 + 3, none⟩ = some (.int .i64 x.e.n) := fun nq => by rw [hx]; exact peer_at (low_trans'' HL.out nq.h) hb hcc hlj (j := 3) rfl
          have f4 : ∀ nq : Cls (Lows wr), nq.w.cell? ⟨bb, o + j * 10 + 4, none⟩ = some (.bool x.i) := fun nq => by rw [hx]; exact peer_at (low_trans'' HL.out nq.h) hb hcc hlj (j := 4) rfl
          have f5 : ∀ nq : Cls (Lows wr), nq.w.cell? ⟨bb, o + j * 10 + 5, none⟩ = some (.int .i64 x.t) := fun nq => by rw [hx]; exact peer_at (low_trans'' HL.out nq.h) hb hcc hlj (j := 5) rfl
          have f6 : ∀ nq : Cls (Lows wr), nq.w.cell? ⟨bb, o + j * 10 + 6, none⟩ = some (.int .i64 x.c.p) := fun nq => by rw [hx]; exact peer_at (low_trans'' HL.out nq.h) hb hcc hlj (j := 6) rfl
          have f7 : ∀ nq : Cls (Lows wr), nq.w.cell? ⟨bb, o + j * 10 + 7, none⟩ = some (.int .i64 x.c.a) := fun nq => by rw [hx]; exact peer_at (low_trans'' HL.out nq.h) hb hcc hlj (j := 7) rfl
          have f8 : ∀ nq : Cls (Lows wr), nq.w.cell? ⟨bb, o + j * 10 + 8, none⟩ = some (.int .i64 x.g) := fun nq => by rw [hx]; exact peer_at (low_trans'' HL.out nq.h) hb hcc hlj (j := 8) rfl
          have f9 : ∀ nq : Cls (Lows wr), nq.w.cell? ⟨bb, o + j * 10 + 9, none⟩ = some (.int .i64 x.k) := fun nq => by rw [hx]; exact peer_at (low_trans'' HL.out nq.h) hb hcc hlj (j := 9) rfl
          have Hx := Lib.hid hx
          clear hx
          obtain ⟨z, hz⟩ : ∃ x, x = l[k]! := ⟨_, rfl⟩
          have hokz : z.ok := by rw [hz, getElem!_pos l k hlk]; exact HOK.out _ (List.getElem_mem _)
          have g0 : ∀ nq : Cls (Lows wr), nq.w.cell? ⟨bb, o + k * 10, none⟩ = some (.bool z.e.a.v6) := fun nq => by rw [hz]; exact peer_at (low_trans'' HL.out nq.h) hb hcc hlk (j := 0) rfl
          have g1 : ∀ nq : Cls (Lows wr), nq.w.cell? ⟨bb, o + k * 10 + 1, none⟩ = some (.int .u64 z.e.a.hi) := fun nq => by rw [hz]; exact peer_at (low_trans'' HL.out nq.h) hb hcc hlk (j := 1) rfl
          have g2 : ∀ nq : Cls (Lows wr), nq.w.cell? ⟨bb, o + k * 10 + 2, none⟩ = some (.int .u64 z.e.a.lo) := fun nq => by rw [hz]; exact peer_at (low_trans'' HL.out nq.h) hb hcc hlk (j := 2) rfl
          have g3 : ∀ nq : Cls (Lows wr), nq.w.cell? ⟨bb, o + k * 10 + 3, none⟩ = some (.int .i64 z.e.n) := fun nq => by rw [hz]; exact peer_at (low_trans'' HL.out nq.h) hb hcc hlk (j := 3) rfl
          have g4 : ∀ nq : Cls (Lows wr), nq.w.cell? ⟨bb, o + k * 10 + 4, none⟩ = some (.bool z.i) := fun nq => by rw [hz]; exact peer_at (low_trans'' HL.out nq.h) hb hcc hlk (j := 4) rfl
          have g5 : ∀ nq : Cls (Lows wr), nq.w.cell? ⟨bb, o + k * 10 + 5, none⟩ = some (.int .i64 z.t) := fun nq => by rw [hz]; exact peer_at (low_trans'' HL.out nq.h) hb hcc hlk (j := 5) rfl
          have g6 : ∀ nq : Cls (Lows wr), nq.w.cell? ⟨bb, o + k * 10 + 6, none⟩ = some (.int .i64 z.c.p) := fun nq => by rw [hz]; exact peer_at (low_trans'' HL.out nq.h) hb hcc hlk (j := 6) rfl
          have g7 : ∀ nq : Cls (Lows wr), nq.w.cell? ⟨bb, o + k * 10 + 7, none⟩ = some (.int .i64 z.c.a) := fun nq => by rw [hz]; exact peer_at (low_trans'' HL.out nq.h) hb hcc hlk (j := 7) rfl
          have g8 : ∀ nq : Cls (Lows wr), nq.w.cell? ⟨bb, o + k * 10 + 8, none⟩ = some (.int .i64 z.g) := fun nq => by rw [hz]; exact peer_at (low_trans'' HL.out nq.h) hb hcc hlk (j := 8) rfl
          have g9 : ∀ nq : Cls (Lows wr), nq.w.cell? ⟨bb, o + k * 10 + 9, none⟩ = some (.int .i64 z.k) := fun nq => by rw [hz]; exact peer_at (low_trans'' HL.out nq.h) hb hcc hlk (j := 9) rfl
          have Hz := Lib.hid hz
          clear hz
          have KC : Hid (∀ W, Calls Try.prog 21 #[.agg #[.bool x.e.a.v6, .int .u64 x.e.a.hi, .int .u64 x.e.a.lo, .int .i64 x.e.n, .bool x.i, .int .i64 x.t, .int .i64 x.c.p, .int .i64 x.c.a, .int .i64 x.g, .int .i64 x.k], .int .i64 b] W fun e w' => e = .returned (.bool (countsR x b)) ∧ Below W.heap.size W w') := Lib.hid fun W => rcounts_any x b W
          have KA : Hid (∀ W, Calls Try.prog 34 #[.agg #[.bool x.e.a.v6, .int .u64 x.e.a.hi, .int .u64 x.e.a.lo, .int .i64 x.e.n, .bool x.i, .int .i64 x.t, .int .i64 x.c.p, .int .i64 x.c.a, .int .i64 x.g, .int .i64 x.k], .agg #[.bool z.e.a.v6, .int .u64 z.e.a.hi, .int .u64 z.e.a.lo, .int .i64 z.e.n, .bool z.i, .int .i64 z.t, .int .i64 z.c.p, .int .i64 z.c.a, .int .i64 z.g, .int .i64 z.k], .int .i64 b, .int .u64 (s : Nat)] W fun e w' => e = .returned (.bool (aheadR x z b s)) ∧ Below W.heap.size W w') := Lib.hid fun W => rahead_any x z b s W hokx hokz HS.out
          clear hokx hokz hcc hb
          cases hq : countsR x b with
          | false =>
            rw [hq] at KC
            have HN : Hid (m = (beforeR l k b s (j + 1)).length) := Lib.hid (by rw [before_no (by rw [← Hx.out, hq]; rfl)]; exact HM.out)
            clear hq KA
            go_wp2_with fail
            refine Cls.region (Lows wr) (by kernel_rfl) (by kernel_rfl) (low_drewN (Below.refl _ _) 1) ?_
            (try dsimp only [List.append])
            repeat (go_big_quiet_step (first | fail | (with_reducible exact Cls.call ((lows_call KC).out _ (Cls.h _)))))
            refine wpQuiet_nil ?_
            intro n9
            have hk9 := n9.h
            generalize n9.w = w9 at hk9 ⊢
            clear hne n9 f0 f1 f2 f3 f4 f5 f6 f7 f8 f9 g0 g1 g2 g3 g4 g5 g6 g7 g8 g9 KC
            go_wp2_with fail
            go_roundw
            case rel => exact ⟨j + 1, m, rfl, by go_num, by omega, by omega, HN, Lib.hid (low_trans'' HL.out hk9)⟩
            case measure => simp [intOf]; omega
          | true =>
            rw [hq] at KC
            cases ha : aheadR x z b s with
            | true =>
              rw [ha] at KA
              have HN : Hid (m + 1 = (beforeR l k b s (j + 1)).length) := Lib.hid (by rw [before_yes (by rw [← Hx.out, ← Hz.out, hq, ha]; rfl)]; rw [HM.out])
              clear hq ha
              go_wp2_with fail
              refine Cls.region (Lows wr) (by kernel_rfl) (by kernel_rfl) (low_drewN (Below.refl _ _) 1) ?_
              (try dsimp only [List.append])
              repeat (go_big_quiet_step (first | fail | (with_reducible exact Cls.call ((lows_call KC).out _ (Cls.h _))) | (with_reducible exact Cls.call ((lows_call KA).out _ (Cls.h _)))))
              refine wpQuiet_nil ?_
              intro n9
              have hk9 := n9.h
              generalize n9.w = w9 at hk9 ⊢
              clear hne n9 f0 f1 f2 f3 f4 f5 f6 f7 f8 f9 g0 g1 g2 g3 g4 g5 g6 g7 g8 g9 KC KA
              go_wp2_with fail
              go_roundw
              case rel => exact ⟨j + 1, m + 1, by go_num, by go_num, by omega, by omega, HN, Lib.hid (low_trans'' HL.out hk9)⟩
              case measure => simp [intOf]; omega
            | false =>
              rw [ha] at KA
              have HN : Hid (m = (beforeR l k b s (j + 1)).length) := Lib.hid (by rw [before_no (by rw [← Hx.out, ← Hz.out, hq, ha]; rfl)]; exact HM.out)
              clear hq ha
              go_wp2_with fail
              refine Cls.region (Lows wr) (by kernel_rfl) (by kernel_rfl) (low_drewN (Below.refl _ _) 1) ?_
              (try dsimp only [List.append])
              repeat (go_big_quiet_step (first | fail | (with_reducible exact Cls.call ((lows_call KC).out _ (Cls.h _))) | (with_reducible exact Cls.call ((lows_call KA).out _ (Cls.h _)))))
              refine wpQuiet_nil ?_
              intro n9
              have hk9 := n9.h
              generalize n9.w = w9 at hk9 ⊢
              clear hne n9 f0 f1 f2 f3 f4 f5 f6 f7 f8 f9 g0 g1 g2 g3 g4 g5 g6 g7 g8 g9 KC KA
              go_wp2_with fail
              go_roundw
              case rel => exact ⟨j + 1, m, rfl, by go_num, by omega, by omega, HN, Lib.hid (low_trans'' HL.out hk9)⟩
              case measure => simp [intOf]; omega
        · have hljz : ¬ (j : Int) < (l.length : Int) := by omega
          have EE : Hid ((m : Int) = RR) := Lib.hid (by rw [E.out, HM.out, show j = l.length by omega])
          go_wp2_with fail
          go_ret
          exact ⟨ret_i EE.out, HL.out⟩
    · rw [show rankR l i b s = -1 by unfold rankR; rw [if_neg (by omega)]]
      have hi2 : (l.length : Int) ≤ i := by omega
      go_enter Try.func22, Try.ntmps22
      go_wp2_with fail
      go_ret
      exact ⟨rfl, Below.refl _ _⟩
theorem made_bools (k : Nat) : (madeCells (Value.cells (.bool false)) (k * 1)).toList = ls k (fun _ => .bool false) := by
  refine List.ext_getElem (by simp [ls_length, size_madeCells]) fun j h1 h2 => ?_
  rw [ls_get]
  simp [madeCells, Value.cells, Nat.mod_one]
theorem make_bools (w : World) (k : Nat) (hk : k ≤ 1000000) : (Instr.makeSlice 71 (.int .i64 k) (.int .i64 k)).run Try.prog w = .ok (.slice (some ⟨w.heap.size, 0, none⟩) k k) (w.alloc (.cells (madeCells (Value.cells (.bool false)) (k * 1)) 4)) := by
  have HI : (Try.prog.info? 4).map (fun i => (i.zero, i.size, i.bytes)) = some (some (.bool false), 1, 1) := by kernel_rfl
  obtain ⟨i0, hi, hz0, hz1, hz2⟩ := info_parts HI
  have R1 := run_make (P := Try.prog) w 71 4 i0 _ Try.underlying71 hi hz0 .i64 .i64 (k : Int) (k : Int) (by omega) (by omega) (by rw [hz2]; omega) (by omega)
  rw [Int.toNat_natCast, hz1] at R1
  exact R1
/-- What the call has of numbers: nothing yet, or a row of its own behind block gU. -/
def OutN (gO gU : Nat) (w : World) (v : Value) (L : List Nat) : Prop := (L = [] ∧ v = .slice (some ⟨gO, 0, none⟩) 0 0) ∨ w.ownsRow (gU + 1) 3 1 v L.length (flat encN L)
theorem OutN.on {gO gU : Nat} {w w' : World} {v : Value} {L : List Nat} (h : OutN gO gU w v L) (hb : Below w.heap.size w w') : OutN gO gU w' v L := h.imp id fun k => own_on k hb
theorem OutN.setCell {gO gU : Nat} {w : World} {v : Value} {L : List Nat} (h : OutN gO gU w v L) (j : Nat) (u : Value) : OutN gO gU (w.setCell ⟨gU, j, none⟩ u) v L := h.imp id fun k => ownsRow_setCell_below k (by show gU < gU + 1; omega) u
theorem OutN.reads {gO gU : Nat} {w : World} {v : Value} {L : List Nat} (h : OutN gO gU w v L) : NumsI w v L := by
  rcases h with ⟨rfl, rfl⟩ | h
  · exact Recs.void _ _ _ _ (fun h => by simp at h)
  · exact (recs_own encN_len (by decide) h).1
theorem own_mono {B B' k n : Nat} {e : TypeId} {w : World} {v : Value} {xs : List Value} (h : w.ownsRow B e k v n xs) (hB : B' ≤ B) : w.ownsRow B' e k v n xs := by
  refine ⟨h.1, ?_⟩
  rcases h.2 with h | ⟨g, cap, cur, h1, h2, h3⟩
  · exact Or.inl h
  · exact Or.inr ⟨g, cap, cur, h1, Nat.le_trans hB h2, h3⟩
theorem append_out {gO gU : Nat} {W : World} {v : Value} {L : List Nat} (h : OutN gO gU W v L) (y : Nat) (hlen : L.length ≤ 1000000) (hB : gU + 1 ≤ W.heap.size) :
    ∃ v' w', (Builtin.append_ #[66, 66] 66 #[v, .slice (some ⟨W.heap.size, 0, none⟩) 1 1]).run Try.prog (W.alloc (.cells #[.int .i64 (y : Int)] 3)) = .ok v' w' ∧ OutN gO gU w' v' (L ++ [y]) ∧ Below (gU + 1) W w' := by
  have HI : (Try.prog.info? 3).map (fun i => (i.zero, i.size, i.bytes)) = some (some (.int .i64 0), 1, 8) := by kernel_rfl
  have hlow : Below (gU + 1) W (W.alloc (.cells #[.int .i64 (y : Int)] 3)) := (Below.refl _ _).alloc hB _
  rcases h with ⟨rfl, rfl⟩ | h
  · obtain ⟨i, hi, hz0, hz1, hz2⟩ := info_parts (P := Try.prog) HI
    obtain ⟨v', w', hr, h2, h3⟩ := run_append_arg_grows (P := Try.prog) (w := W.alloc (.cells #[.int .i64 (y : Int)] 3)) 66 66 3 i (.int .i64 0) 1 8 Try.underlying66 hi hz0 hz1 hz2 rfl (by decide) ⟨gO, 0, none⟩ 0 0 [] rfl (fun j u hj => by simp at hj) ⟨W.heap.size, 0, none⟩ 1 1 [.int .i64 (y : Int)] rfl (fun j u hj => by
      rw [add_plain, cell_of_row _ _ _ _ _ _ (heap_alloc_new W _)]
      simpa using hj) (by decide) (by simp [maxLen]) (by decide)
    refine ⟨v', w', hr, Or.inr (own_mono h2 (by simp; omega)), hlow.trans ((Below.refl _ _).grown h3 (Nat.le_trans hB hlow.size) (fun k hk => by cases hk))⟩
  · obtain ⟨v', w', h1, h2, h3⟩ := append_recs (P := Try.prog) (z := .int .i64 0) (bytes := 8) Try.underlying66 HI rfl (by decide) encN_len encN_one (h.alloc (.cells #[.int .i64 (y : Int)] 3))
      (Recs.lit encN_len W [y] #[.int .i64 (y : Int)] 3 (by rw [flat_one]; rfl)) (by simp; omega) (by simp; omega) (Nat.le_trans hB hlow.size)
    exact ⟨v', w', h1, Or.inr h2, hlow.trans h3⟩
def usedB (O : List Nat) (k : Nat) : Nat → Value := fun j => .bool (decide (j ∈ O.take k))
theorem used_start (O : List Nat) (n : Nat) : ls n (usedB O 0) = ls n (fun _ => .bool false) := by
  congr 1
theorem used_set {l : List Pr} {b : Int} {s k n m : Nat} (hk : k < (ordR l b s).length) (hm : (ordR l b s)[k]! = m) (hn : m < n) : (ls n (usedB (ordR l b s) k)).set m (.bool true) = ls n (usedB (ordR l b s) (k + 1)) := by
  rw [ls_set _ _ hn]
  congr 1
  funext j
  unfold usedB
  have h := used_next (j := j) hk
  rw [hm] at h
  by_cases e : j = m
  · rw [if_pos e, decide_eq_true (h.2 (Or.inl e))]
  · rw [if_neg e]
    congr 1
    rw [decide_eq_decide]
    exact ⟨fun x => h.2 (Or.inr x), fun x => (h.1 x).resolve_left e⟩
end Go.Proofs.Ythmcggbmeabpmaa.Ra
