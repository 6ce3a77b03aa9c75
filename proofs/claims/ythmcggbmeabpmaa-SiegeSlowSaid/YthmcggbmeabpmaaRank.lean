/- Contracts of package rank, first part: places compared; where a peer stands; who counts; who is ahead. -/
import Derived.Test.YthmcggbmeabpmaaRankMath
import Derived.Test.YthmcggbmeabpmaaBox
import Derived.Test.YthmcggbmeabpmaaTail
import Derived.Test.YthmcggbmeabpmaaRef09All
import Derived.Test.YthmcggbmeabpmaaRef08All
import Derived.Test.YthmcggbmeabpmaaMixAll
import Derived.Test.YthmcggbmeabpmaaTwoDoor
import Derived.Test.YthmcggbmeabpmaaEndpDoor
import Derived.Test.YthmcggbmeabpmaaPeerDoor
import Derived.Deep.CutRange
import Derived.Laws.Bits64
namespace Go.Proofs.Ythmcggbmeabpmaa.Ra
set_option maxRecDepth 100000
open Go.ChangeShapes Go.WideShapes Go.ChangeAt Go.RowKit
open Dec Words V4 V6 Ad Ci En Sat Ha Pe Stb Gr Mi Go.Deep
set_option linter.unusedVariables false
def cmpU (m n : Nat) : Int := if m = n then 0 else if m < n then -1 else 1
theorem isNaN_any (n : Nat) (w : World) : Calls Try.prog 86 #[.int .u64 (n : Nat)] w fun e w' => e = .returned (.bool false) ∧ w = w' := by
  go_enter Try.func86, Try.ntmps86
  go_wp2_with fail
  go_ret
  exact ⟨ret_b (by simp), rfl⟩
set_option maxHeartbeats 2000000 in
theorem cmpU_any (m n : Nat) (w : World) : Calls Try.prog 79 #[.int .u64 (m : Nat), .int .u64 (n : Nat)] w fun e w' => e = .returned (.int .i64 (cmpU m n)) ∧ w = w' := by
  have K1 := Lib.hid (fun W => isNaN_any m W)
  have K2 := Lib.hid (fun W => isNaN_any n W)
  rcases Nat.lt_trichotomy m n with h | h | h
  · have h1 : (m : Int) < (n : Int) := by omega
    rw [show cmpU m n = -1 by unfold cmpU; rw [if_neg (by omega), if_pos h]]
    go_enter Try.func79, Try.ntmps79
    go_wp2_with fail
    refine (K1.out _).mono ?_; rintro e w' ⟨rfl, rfl⟩
    go_wp2_with fail
    refine (K2.out _).mono ?_; rintro e w' ⟨rfl, rfl⟩
    go_wp2_with fail
    go_ret
    exact ⟨rfl, rfl⟩
  · subst h
    have h1 : ¬ (m : Int) < (m : Int) := by omega
    rw [show cmpU m m = 0 by unfold cmpU; rw [if_pos rfl]]
    go_enter Try.func79, Try.ntmps79
    go_wp2_with fail
    refine (K1.out _).mono ?_; rintro e w' ⟨rfl, rfl⟩
    go_wp2_with fail
    refine (K1.out _).mono ?_; rintro e w' ⟨rfl, rfl⟩
    go_wp2_with fail
    go_ret
    exact ⟨rfl, rfl⟩
  · have h1 : ¬ (m : Int) < (n : Int) := by omega
    have h2 : (n : Int) < (m : Int) := by omega
    rw [show cmpU m n = 1 by unfold cmpU; rw [if_neg (by omega), if_neg (by omega)]]
    go_enter Try.func79, Try.ntmps79
    go_wp2_with fail
    refine (K1.out _).mono ?_; rintro e w' ⟨rfl, rfl⟩
    go_wp2_with fail
    refine (K2.out _).mono ?_; rintro e w' ⟨rfl, rfl⟩
    go_wp2_with fail
    go_ret
    exact ⟨rfl, rfl⟩
set_option maxHeartbeats 4000000 in
theorem compareL_any (x y : Pl) (w : World) (hx : x.ok) (hy : y.ok) : Calls Try.prog 70 #[.agg #[.int .u64 (x.k : Nat), .bool x.e.a.v6, .int .u64 x.e.a.hi, .int .u64 x.e.a.lo, .int .i64 x.e.n, .int .i64 x.i], .agg #[.int .u64 (y.k : Nat), .bool y.e.a.v6, .int .u64 y.e.a.hi, .int .u64 y.e.a.lo, .int .i64 y.e.n, .int .i64 y.i]] w fun e w' => e = .returned (.int .i64 (cmpL x y)) ∧ Below w.heap.size w w' := by
  have KU := Lib.hid (fun W => cmpU_any x.k y.k W)
  have KE := Lib.hid (fun W => compareE_any x.e y.e W hx.2.1 hy.2.1)
  clear hx hy
  have O1 := Lib.hid (Blk.on (Blk.new w #[.int .u64 (x.k : Nat), .bool x.e.a.v6, .int .u64 x.e.a.hi, .int .u64 x.e.a.lo, .int .i64 x.e.n, .int .i64 x.i] 98) (Lows.alloc (Lows.self _) (.cells #[.int .u64 (y.k : Nat), .bool y.e.a.v6, .int .u64 y.e.a.hi, .int .u64 y.e.a.lo, .int .i64 y.e.n, .int .i64 y.i] 98)))
  have O2 := Lib.hid (Blk.two w (.cells #[.int .u64 (x.k : Nat), .bool x.e.a.v6, .int .u64 x.e.a.hi, .int .u64 x.e.a.lo, .int .i64 x.e.n, .int .i64 x.i] 98) #[.int .u64 (y.k : Nat), .bool y.e.a.v6, .int .u64 y.e.a.hi, .int .u64 y.e.a.lo, .int .i64 y.e.n, .int .i64 y.i] 98)
  have L0 : Hid (Lows w ((w.alloc (.cells #[.int .u64 (x.k : Nat), .bool x.e.a.v6, .int .u64 x.e.a.hi, .int .u64 x.e.a.lo, .int .i64 x.e.n, .int .i64 x.i] 98)).alloc (.cells #[.int .u64 (y.k : Nat), .bool y.e.a.v6, .int .u64 y.e.a.hi, .int .u64 y.e.a.lo, .int .i64 y.e.n, .int .i64 y.i] 98))) := Lib.hid (Lows.alloc (Lows.alloc (Lows.self w) _) _)
  have a0 := O1.out.cell (j := 0) rfl
  have a1 := O1.out.cell (j := 1) rfl
  have a2 := O1.out.cell (j := 2) rfl
  have a3 := O1.out.cell (j := 3) rfl
  have a4 := O1.out.cell (j := 4) rfl
  have b0 := O2.out.cell (j := 0) rfl
  have b1 := O2.out.cell (j := 1) rfl
  have b2 := O2.out.cell (j := 2) rfl
  have b3 := O2.out.cell (j := 3) rfl
  have b4 := O2.out.cell (j := 4) rfl
  by_cases h : x.k = y.k
  · have hz : ((x.k : Int) != (y.k : Int)) = false := by rw [h]; simp
    rw [show cmpL x y = cmpE x.e y.e by unfold cmpL; rw [if_pos h]]
    clear h
    go_enter Try.func70, Try.ntmps70
    go_wp2_with fail
    refine (KE.out _).mono ?_; rintro e w1 ⟨rfl, hb1⟩
    go_wp2_with fail
    go_ret
    exact ⟨rfl, low_trans L0.out hb1⟩
  · have hz : ((x.k : Int) != (y.k : Int)) = true := by rw [bne_iff_ne]; omega
    rw [show cmpL x y = cmpU x.k y.k by unfold cmpL cmpU; rw [if_neg h, if_neg h]]
    clear h
    go_enter Try.func70, Try.ntmps70
    go_wp2_with fail
    refine (KU.out _).mono ?_; rintro e w1 ⟨rfl, rfl⟩
    go_wp2_with fail
    go_ret
    exact ⟨rfl, L0.out⟩
theorem xor_low {u : Nat} (h : u < 9223372036854775808) : u ^^^ 9223372036854775808 = u + 9223372036854775808 := by
  rw [Nat.xor_comm, Nat.add_comm, show (9223372036854775808 : Nat) = 2 ^ 63 from rfl]
  refine Nat.eq_of_testBit_eq fun i => ?_
  rw [Nat.testBit_xor, Nat.testBit_two_pow]
  rcases Nat.lt_trichotomy i 63 with hi | hi | hi
  · rw [Nat.testBit_two_pow_add_gt hi, decide_eq_false (by omega), Bool.false_xor]
  · subst hi
    rw [Nat.testBit_two_pow_add_eq, decide_eq_true rfl, Bool.true_xor]
  · have h1 : u < 2 ^ i := Nat.lt_of_lt_of_le h (Nat.pow_le_pow_right (n := 2) (by decide) (by omega : 63 ≤ i))
    have h2 : 2 ^ 63 + u < 2 ^ i := Nat.lt_of_lt_of_le (by omega : 2 ^ 63 + u < 2 ^ 64) (Nat.pow_le_pow_right (n := 2) (by decide) (by omega : 64 ≤ i))
    rw [Nat.testBit_lt_two_pow h1, Nat.testBit_lt_two_pow h2, decide_eq_false (by omega)]; rfl
theorem xor_top {u : Nat} (h : u < 18446744073709551616) : u ^^^ 9223372036854775808 = if u < 9223372036854775808 then u + 9223372036854775808 else u - 9223372036854775808 := by
  by_cases c : u < 9223372036854775808
  · rw [if_pos c, xor_low c]
  · rw [if_neg c]
    obtain ⟨v, rfl⟩ : ∃ v, u = v + 9223372036854775808 := ⟨u - 9223372036854775808, by omega⟩
    rw [← xor_low (by omega : v < 9223372036854775808), Nat.xor_assoc, Nat.xor_self, Nat.xor_zero, xor_low (by omega)]
    omega
theorem xor_ones {u : Nat} (h : u < 18446744073709551616) : 18446744073709551615 ^^^ u = 18446744073709551615 - u := by
  rw [show (18446744073709551615 : Nat) ^^^ u = (2 ^ 64 - 1) ^^^ u from rfl, show 18446744073709551615 - u = 2 ^ 64 - (u + 1) by omega]
  refine Nat.eq_of_testBit_eq fun i => ?_
  rw [Nat.testBit_xor, Nat.testBit_two_pow_sub_one, Nat.testBit_two_pow_sub_succ h]
  by_cases hi : i < 64
  · rw [decide_eq_true hi, Bool.true_xor, Bool.true_and]
  · have h1 : u < 2 ^ i := Nat.lt_of_lt_of_le h (Nat.pow_le_pow_right (n := 2) (by decide) (by omega : 64 ≤ i))
    rw [decide_eq_false hi, Nat.testBit_lt_two_pow h1]; rfl
theorem rising_any (n : Int) (w : World) (hn : -9223372036854775808 ≤ n ∧ n ≤ 9223372036854775807) : Calls Try.prog 77 #[.int .i64 n] w fun e w' => e = .returned (.int .u64 (rise n : Nat)) ∧ w = w' := by
  obtain ⟨r, hr⟩ : ∃ r, r = rise n := ⟨_, rfl⟩
  rw [← hr]
  obtain ⟨u, hu⟩ : ∃ u : Nat, u = (n % 18446744073709551616).toNat := ⟨_, rfl⟩
  have e1 : IntKind.u64.wrap n = (u : Int) := by rw [IntKind.wrap_u64]; omega
  have e2 : bits .xor .u64 (u : Int) 9223372036854775808 = (r : Int) := by
    have h := bits_xor_u64_nat u 9223372036854775808 (by omega) (by decide)
    rw [show ((9223372036854775808 : Nat) : Int) = 9223372036854775808 from rfl] at h
    rw [h, xor_top (by omega)]
    unfold rise at hr
    split <;> omega
  clear hr hu hn
  go_enter Try.func77, Try.ntmps77
  go_wp2_with fail
  go_ret
  exact ⟨rfl, rfl⟩
theorem falling_any (n : Nat) (w : World) (hn : n < 18446744073709551616) : Calls Try.prog 75 #[.int .u64 (n : Nat)] w fun e w' => e = .returned (.int .u64 (fall n : Nat)) ∧ w = w' := by
  obtain ⟨r, hr⟩ : ∃ r, r = fall n := ⟨_, rfl⟩
  rw [← hr]
  have e2 : bits .xor .u64 IntKind.u64.max (n : Int) = (r : Int) := by
    have h := bits_xor_u64_nat 18446744073709551615 n (by decide) hn
    rw [show IntKind.u64.max = ((18446744073709551615 : Nat) : Int) from rfl, h, xor_ones hn, hr]; rfl
  clear hr hn
  go_enter Try.func75, Try.ntmps75
  go_wp2_with fail
  go_ret
  exact ⟨rfl, rfl⟩
theorem counts_any (x : Pr) (b : Int) (w : World) : Calls Try.prog 67 #[.agg #[.bool x.e.a.v6, .int .u64 x.e.a.hi, .int .u64 x.e.a.lo, .int .i64 x.e.n, .bool x.i, .int .i64 x.t, .int .i64 x.c.p, .int .i64 x.c.a, .int .i64 x.g, .int .i64 x.k], .int .i64 b] w fun e w' => e = .returned (.bool (countsR x b)) ∧ Below w.heap.size w w' := by
  have O := Lib.hid (Blk.new w #[.bool x.e.a.v6, .int .u64 x.e.a.hi, .int .u64 x.e.a.lo, .int .i64 x.e.n, .bool x.i, .int .i64 x.t, .int .i64 x.c.p, .int .i64 x.c.a, .int .i64 x.g, .int .i64 x.k] 41)
  have L0 : Hid (Lows w (w.alloc (.cells #[.bool x.e.a.v6, .int .u64 x.e.a.hi, .int .u64 x.e.a.lo, .int .i64 x.e.n, .bool x.i, .int .i64 x.t, .int .i64 x.c.p, .int .i64 x.c.a, .int .i64 x.g, .int .i64 x.k] 41))) := Lib.hid (Lows.alloc (Lows.self w) _)
  have a8 := O.out.cell (j := 8) rfl
  have a9 := O.out.cell (j := 9) rfl
  by_cases n1 : b = 1
  · subst n1
    rw [show countsR x 1 = true by unfold countsR; simp]
    go_enter Try.func67, Try.ntmps67
    go_wp2_with fail
    go_ret
    exact ⟨rfl, L0.out⟩
  ·
    by_cases n4 : b = 4
    · subst n4
      rw [show countsR x 4 = true by unfold countsR; simp]
      go_enter Try.func67, Try.ntmps67
      go_wp2_with fail
      go_ret
      exact ⟨rfl, L0.out⟩
    ·
      by_cases n2 : b = 2
      · subst n2
        rw [show countsR x 2 = decide (0 < x.g) by unfold countsR; simp]
        go_enter Try.func67, Try.ntmps67
        go_wp2_with fail
        go_ret
        exact ⟨rfl, L0.out⟩
      ·
        by_cases n3 : b = 3
        · subst n3
          rw [show countsR x 3 = decide (0 < x.k) by unfold countsR; simp]
          go_enter Try.func67, Try.ntmps67
          go_wp2_with fail
          go_ret
          exact ⟨rfl, L0.out⟩
        ·
          have z1 : (b == 1) = false := by rw [beq_eq_false_iff_ne]; exact n1
          have z4 : (b == 4) = false := by rw [beq_eq_false_iff_ne]; exact n4
          have z2 : (b == 2) = false := by rw [beq_eq_false_iff_ne]; exact n2
          have z3 : (b == 3) = false := by rw [beq_eq_false_iff_ne]; exact n3
          rw [show countsR x b = false by unfold countsR; simp [n1, n2, n3, n4]]
          go_enter Try.func67, Try.ntmps67
          go_wp2_with fail
          go_ret
          exact ⟨rfl, L0.out⟩
theorem mixN_lt (s : Nat) (n : Net) : mixN s n < 18446744073709551616 := mix_lt _ _
theorem put6 {w : World} {b : Nat} {t : TypeId} {vs : List Value} (h : Blk w b t vs) (hl : vs.length = 6) (v0 v1 v2 v3 v4 v5 : Value) : Blk ((((((w.setCell ⟨b, 0, none⟩ v0).setCell ⟨b, 1, none⟩ v1).setCell ⟨b, 2, none⟩ v2).setCell ⟨b, 3, none⟩ v3).setCell ⟨b, 4, none⟩ v4).setCell ⟨b, 5, none⟩ v5) b t [v0, v1, v2, v3, v4, v5] := by
  match vs, hl with
  | [_, _, _, _, _, _], _ => simpa using (((((((h.set 0 v0).set 1 v1).set 2 v2).set 3 v3).set 4 v4).set 5 v5))
theorem bt6 (w : World) (b : Nat) (v0 v1 v2 v3 v4 v5 : Value) : Bt b w ((((((w.setCell ⟨b, 0, none⟩ v0).setCell ⟨b, 1, none⟩ v1).setCell ⟨b, 2, none⟩ v2).setCell ⟨b, 3, none⟩ v3).setCell ⟨b, 4, none⟩ v4).setCell ⟨b, 5, none⟩ v5) := (((((Bt.setCell _ _ _ _).trans (Bt.setCell _ _ _ _)).trans (Bt.setCell _ _ _ _)).trans (Bt.setCell _ _ _ _)).trans (Bt.setCell _ _ _ _)).trans (Bt.setCell _ _ _ _)
set_option maxHeartbeats 4000000 in
theorem placeOf_any (x : Pr) (b : Int) (s : Nat) (w : World) (hx : x.ok) (hs : s < 18446744073709551616) : Calls Try.prog 68 #[.agg #[.bool x.e.a.v6, .int .u64 x.e.a.hi, .int .u64 x.e.a.lo, .int .i64 x.e.n, .bool x.i, .int .i64 x.t, .int .i64 x.c.p, .int .i64 x.c.a, .int .i64 x.g, .int .i64 x.k], .int .i64 b, .int .u64 (s : Nat)] w fun e w' => e = .returned (.agg #[.int .u64 (numR x b s : Nat), .bool (endR x b).a.v6, .int .u64 (endR x b).a.hi, .int .u64 (endR x b).a.lo, .int .i64 (endR x b).n, .int .i64 (0)]) ∧ Below w.heap.size w w' := by
  have O1 : Hid (Blk ((w.alloc (.cells #[.bool x.e.a.v6, .int .u64 x.e.a.hi, .int .u64 x.e.a.lo, .int .i64 x.e.n, .bool x.i, .int .i64 x.t, .int .i64 x.c.p, .int .i64 x.c.a, .int .i64 x.g, .int .i64 x.k] 41)).alloc (.cells #[.int .u64 0, .bool false, .int .u64 0, .int .u64 0, .int .i64 0, .int .i64 0] 98)) w.heap.size 41 [.bool x.e.a.v6, .int .u64 x.e.a.hi, .int .u64 x.e.a.lo, .int .i64 x.e.n, .bool x.i, .int .i64 x.t, .int .i64 x.c.p, .int .i64 x.c.a, .int .i64 x.g, .int .i64 x.k]) := Lib.hid (Blk.on (Blk.new w #[.bool x.e.a.v6, .int .u64 x.e.a.hi, .int .u64 x.e.a.lo, .int .i64 x.e.n, .bool x.i, .int .i64 x.t, .int .i64 x.c.p, .int .i64 x.c.a, .int .i64 x.g, .int .i64 x.k] 41) (Lows.alloc (Lows.self _) _))
  have O2 : Hid (Blk ((w.alloc (.cells #[.bool x.e.a.v6, .int .u64 x.e.a.hi, .int .u64 x.e.a.lo, .int .i64 x.e.n, .bool x.i, .int .i64 x.t, .int .i64 x.c.p, .int .i64 x.c.a, .int .i64 x.g, .int .i64 x.k] 41)).alloc (.cells #[.int .u64 0, .bool false, .int .u64 0, .int .u64 0, .int .i64 0, .int .i64 0] 98)) (w.heap.size + 1) 98 [.int .u64 0, .bool false, .int .u64 0, .int .u64 0, .int .i64 0, .int .i64 0]) := Lib.hid (Blk.two w (.cells #[.bool x.e.a.v6, .int .u64 x.e.a.hi, .int .u64 x.e.a.lo, .int .i64 x.e.n, .bool x.i, .int .i64 x.t, .int .i64 x.c.p, .int .i64 x.c.a, .int .i64 x.g, .int .i64 x.k] 41) #[.int .u64 0, .bool false, .int .u64 0, .int .u64 0, .int .i64 0, .int .i64 0] 98)
  have L0 : Hid (Lows w ((w.alloc (.cells #[.bool x.e.a.v6, .int .u64 x.e.a.hi, .int .u64 x.e.a.lo, .int .i64 x.e.n, .bool x.i, .int .i64 x.t, .int .i64 x.c.p, .int .i64 x.c.a, .int .i64 x.g, .int .i64 x.k] 41)).alloc (.cells #[.int .u64 0, .bool false, .int .u64 0, .int .u64 0, .int .i64 0, .int .i64 0] 98))) := Lib.hid (Lows.alloc (Lows.alloc (Lows.self w) _) _)
  have C1 := Lib.hid (fun W => groupOf_any x.e.a W hx.1.1)
  have C2 := Lib.hid (fun W => net_any s (groupN x.e.a) W hs)
  have C3 := Lib.hid (fun W => falling_any (mixN s (groupN x.e.a)) W (mixN_lt _ _))
  have C4 := Lib.hid (fun W => rising_any x.g W hx.2.2.2.1)
  have C5 := Lib.hid (fun W => rising_any x.k W hx.2.2.2.2)
  have C6 := Lib.hid (fun W => falling_any (rise x.k) W (rise_lt hx.2.2.2.2))
  have C7 := Lib.hid (fun W => rising_any x.t W hx.2.1)
  clear hx hs
  by_cases n1 : b = 1
  · subst n1
    obtain ⟨R, hR⟩ : ∃ R, R = fall (mixN s (groupN x.e.a)) := ⟨_, rfl⟩
    rw [show numR x 1 s = fall (mixN s (groupN x.e.a)) by unfold numR; simp, show endR x 1 = x.e by unfold endR; simp, ← hR]
    rw [← hR] at C3
    generalize mixN s (groupN x.e.a) = M at C2 C3
    generalize groupN x.e.a = G at C1 C2
    clear hR
    go_enter Try.func68, Try.ntmps68
    go_wp2_with fail
    have hne : Nonempty (Cls (Lows ((w.alloc (.cells #[.bool x.e.a.v6, .int .u64 x.e.a.hi, .int .u64 x.e.a.lo, .int .i64 x.e.n, .bool x.i, .int .i64 x.t, .int .i64 x.c.p, .int .i64 x.c.a, .int .i64 x.g, .int .i64 x.k] 41)).alloc (.cells #[.int .u64 0, .bool false, .int .u64 0, .int .u64 0, .int .i64 0, .int .i64 0] 98)))) := ⟨⟨_, Lows.self _⟩⟩
    have f0 : ∀ nq : Cls (Lows ((w.alloc (.cells #[.bool x.e.a.v6, .int .u64 x.e.a.hi, .int .u64 x.e.a.lo, .int .i64 x.e.n, .bool x.i, .int .i64 x.t, .int .i64 x.c.p, .int .i64 x.c.a, .int .i64 x.g, .int .i64 x.k] 41)).alloc (.cells #[.int .u64 0, .bool false, .int .u64 0, .int .u64 0, .int .i64 0, .int .i64 0] 98))), nq.w.cell? ⟨w.heap.size, 0, none⟩ = some (.bool x.e.a.v6) := fun nq => Blk.in O1 nq.h rfl
    have f1 : ∀ nq : Cls (Lows ((w.alloc (.cells #[.bool x.e.a.v6, .int .u64 x.e.a.hi, .int .u64 x.e.a.lo, .int .i64 x.e.n, .bool x.i, .int .i64 x.t, .int .i64 x.c.p, .int .i64 x.c.a, .int .i64 x.g, .int .i64 x.k] 41)).alloc (.cells #[.int .u64 0, .bool false, .int .u64 0, .int .u64 0, .int .i64 0, .int .i64 0] 98))), nq.w.cell? ⟨w.heap.size, 1, none⟩ = some (.int .u64 x.e.a.hi) := fun nq => Blk.in O1 nq.h rfl
    have f2 : ∀ nq : Cls (Lows ((w.alloc (.cells #[.bool x.e.a.v6, .int .u64 x.e.a.hi, .int .u64 x.e.a.lo, .int .i64 x.e.n, .bool x.i, .int .i64 x.t, .int .i64 x.c.p, .int .i64 x.c.a, .int .i64 x.g, .int .i64 x.k] 41)).alloc (.cells #[.int .u64 0, .bool false, .int .u64 0, .int .u64 0, .int .i64 0, .int .i64 0] 98))), nq.w.cell? ⟨w.heap.size, 2, none⟩ = some (.int .u64 x.e.a.lo) := fun nq => Blk.in O1 nq.h rfl
    have f3 : ∀ nq : Cls (Lows ((w.alloc (.cells #[.bool x.e.a.v6, .int .u64 x.e.a.hi, .int .u64 x.e.a.lo, .int .i64 x.e.n, .bool x.i, .int .i64 x.t, .int .i64 x.c.p, .int .i64 x.c.a, .int .i64 x.g, .int .i64 x.k] 41)).alloc (.cells #[.int .u64 0, .bool false, .int .u64 0, .int .u64 0, .int .i64 0, .int .i64 0] 98))), nq.w.cell? ⟨w.heap.size, 3, none⟩ = some (.int .i64 x.e.n) := fun nq => Blk.in O1 nq.h rfl
    refine Cls.tail (Lows ((w.alloc (.cells #[.bool x.e.a.v6, .int .u64 x.e.a.hi, .int .u64 x.e.a.lo, .int .i64 x.e.n, .bool x.i, .int .i64 x.t, .int .i64 x.c.p, .int .i64 x.c.a, .int .i64 x.g, .int .i64 x.k] 41)).alloc (.cells #[.int .u64 0, .bool false, .int .u64 0, .int .u64 0, .int .i64 0, .int .i64 0] 98))) 10 (by kernel_rfl) (by kernel_rfl) (low_drewN (Below.refl _ _) 1) ?_
    simp only [List.take_succ_cons, List.take_zero, List.drop_succ_cons, List.drop_zero]
    repeat (go_big_quiet_step (first | fail | (with_reducible exact Cls.call ((lows_call C1).out _ (Cls.h _))) | (with_reducible exact Cls.call ((lows_call C2).out _ (Cls.h _))) | (with_reducible exact Cls.call ((lows_same C3).out _ (Cls.h _)))))
    refine wpQuiet_nil ?_
    intro n9
    have hk9 := n9.h
    generalize n9.w = w9 at hk9 ⊢
    clear hne n9 f0 f1 f2 f3 C1 C2 C3 C4 C5 C6 C7
    have own := O2.out.on hk9
    have s0 := own.cell (j := 0) rfl
    have t0 := own.free 0
    have s1 := own.cell (j := 1) rfl
    have t1 := own.free 1
    have s2 := own.cell (j := 2) rfl
    have t2 := own.free 2
    have s3 := own.cell (j := 3) rfl
    have t3 := own.free 3
    have s4 := own.cell (j := 4) rfl
    have t4 := own.free 4
    have s5 := own.cell (j := 5) rfl
    have t5 := own.free 5
    have Q2 := put6 own rfl (.int .u64 (R : Nat)) (.bool (x.e).a.v6) (.int .u64 (x.e).a.hi) (.int .u64 (x.e).a.lo) (.int .i64 (x.e).n) (.int .i64 (0))
    have B2 := Lib.hid ((low_trans L0.out hk9).trans ((bt6 w9 (w.heap.size + 1) (.int .u64 (R : Nat)) (.bool (x.e).a.v6) (.int .u64 (x.e).a.hi) (.int .u64 (x.e).a.lo) (.int .i64 (x.e).n) (.int .i64 (0))).low (by omega) (low_trans L0.out hk9).size))
    have HQ2 := Lib.hid Q2
    clear Q2 own hk9
    go_wp2_with fail
    have q0 := HQ2.out.cell (j := 0) rfl
    have q1 := HQ2.out.cell (j := 1) rfl
    have q2 := HQ2.out.cell (j := 2) rfl
    have q3 := HQ2.out.cell (j := 3) rfl
    have q4 := HQ2.out.cell (j := 4) rfl
    have q5 := HQ2.out.cell (j := 5) rfl
    exact bodyPost_ret (v := .agg #[.int .u64 (R : Nat), .bool (x.e).a.v6, .int .u64 (x.e).a.hi, .int .u64 (x.e).a.lo, .int .i64 (x.e).n, .int .i64 (0)]) (by simp [results, Try.results68, go_sem, q0, q1, q2, q3, q4, q5]) rfl ⟨rfl, B2.out⟩
  ·
    by_cases n2 : b = 2
    · subst n2
      obtain ⟨R, hR⟩ : ∃ R, R = rise x.g := ⟨_, rfl⟩
      rw [show numR x 2 s = rise x.g by unfold numR; simp, show endR x 2 = x.e by unfold endR; simp, ← hR]
      rw [← hR] at C4
      clear hR
      go_enter Try.func68, Try.ntmps68
      go_wp2_with fail
      have hne : Nonempty (Cls (Lows ((w.alloc (.cells #[.bool x.e.a.v6, .int .u64 x.e.a.hi, .int .u64 x.e.a.lo, .int .i64 x.e.n, .bool x.i, .int .i64 x.t, .int .i64 x.c.p, .int .i64 x.c.a, .int .i64 x.g, .int .i64 x.k] 41)).alloc (.cells #[.int .u64 0, .bool false, .int .u64 0, .int .u64 0, .int .i64 0, .int .i64 0] 98)))) := ⟨⟨_, Lows.self _⟩⟩
      have f0 : ∀ nq : Cls (Lows ((w.alloc (.cells #[.bool x.e.a.v6, .int .u64 x.e.a.hi, .int .u64 x.e.a.lo, .int .i64 x.e.n, .bool x.i, .int .i64 x.t, .int .i64 x.c.p, .int .i64 x.c.a, .int .i64 x.g, .int .i64 x.k] 41)).alloc (.cells #[.int .u64 0, .bool false, .int .u64 0, .int .u64 0, .int .i64 0, .int .i64 0] 98))), nq.w.cell? ⟨w.heap.size, 0, none⟩ = some (.bool x.e.a.v6) := fun nq => Blk.in O1 nq.h rfl
      have f1 : ∀ nq : Cls (Lows ((w.alloc (.cells #[.bool x.e.a.v6, .int .u64 x.e.a.hi, .int .u64 x.e.a.lo, .int .i64 x.e.n, .bool x.i, .int .i64 x.t, .int .i64 x.c.p, .int .i64 x.c.a, .int .i64 x.g, .int .i64 x.k] 41)).alloc (.cells #[.int .u64 0, .bool false, .int .u64 0, .int .u64 0, .int .i64 0, .int .i64 0] 98))), nq.w.cell? ⟨w.heap.size, 1, none⟩ = some (.int .u64 x.e.a.hi) := fun nq => Blk.in O1 nq.h rfl
      have f2 : ∀ nq : Cls (Lows ((w.alloc (.cells #[.bool x.e.a.v6, .int .u64 x.e.a.hi, .int .u64 x.e.a.lo, .int .i64 x.e.n, .bool x.i, .int .i64 x.t, .int .i64 x.c.p, .int .i64 x.c.a, .int .i64 x.g, .int .i64 x.k] 41)).alloc (.cells #[.int .u64 0, .bool false, .int .u64 0, .int .u64 0, .int .i64 0, .int .i64 0] 98))), nq.w.cell? ⟨w.heap.size, 2, none⟩ = some (.int .u64 x.e.a.lo) := fun nq => Blk.in O1 nq.h rfl
      have f3 : ∀ nq : Cls (Lows ((w.alloc (.cells #[.bool x.e.a.v6, .int .u64 x.e.a.hi, .int .u64 x.e.a.lo, .int .i64 x.e.n, .bool x.i, .int .i64 x.t, .int .i64 x.c.p, .int .i64 x.c.a, .int .i64 x.g, .int .i64 x.k] 41)).alloc (.cells #[.int .u64 0, .bool false, .int .u64 0, .int .u64 0, .int .i64 0, .int .i64 0] 98))), nq.w.cell? ⟨w.heap.size, 3, none⟩ = some (.int .i64 x.e.n) := fun nq => Blk.in O1 nq.h rfl
      have f8 : ∀ nq : Cls (Lows ((w.alloc (.cells #[.bool x.e.a.v6, .int .u64 x.e.a.hi, .int .u64 x.e.a.lo, .int .i64 x.e.n, .bool x.i, .int .i64 x.t, .int .i64 x.c.p, .int .i64 x.c.a, .int .i64 x.g, .int .i64 x.k] 41)).alloc (.cells #[.int .u64 0, .bool false, .int .u64 0, .int .u64 0, .int .i64 0, .int .i64 0] 98))), nq.w.cell? ⟨w.heap.size, 8, none⟩ = some (.int .i64 x.g) := fun nq => Blk.in O1 nq.h rfl
      refine Cls.tail (Lows ((w.alloc (.cells #[.bool x.e.a.v6, .int .u64 x.e.a.hi, .int .u64 x.e.a.lo, .int .i64 x.e.n, .bool x.i, .int .i64 x.t, .int .i64 x.c.p, .int .i64 x.c.a, .int .i64 x.g, .int .i64 x.k] 41)).alloc (.cells #[.int .u64 0, .bool false, .int .u64 0, .int .u64 0, .int .i64 0, .int .i64 0] 98))) 6 (by kernel_rfl) (by kernel_rfl) (low_drewN (Below.refl _ _) 1) ?_
      simp only [List.take_succ_cons, List.take_zero, List.drop_succ_cons, List.drop_zero]
      repeat (go_big_quiet_step (first | fail | (with_reducible exact Cls.call ((lows_same C4).out _ (Cls.h _)))))
      refine wpQuiet_nil ?_
      intro n9
      have hk9 := n9.h
      generalize n9.w = w9 at hk9 ⊢
      clear hne n9 f0 f1 f2 f3 f8 C1 C2 C3 C4 C5 C6 C7
      have own := O2.out.on hk9
      have s0 := own.cell (j := 0) rfl
      have t0 := own.free 0
      have s1 := own.cell (j := 1) rfl
      have t1 := own.free 1
      have s2 := own.cell (j := 2) rfl
      have t2 := own.free 2
      have s3 := own.cell (j := 3) rfl
      have t3 := own.free 3
      have s4 := own.cell (j := 4) rfl
      have t4 := own.free 4
      have s5 := own.cell (j := 5) rfl
      have t5 := own.free 5
      have Q2 := put6 own rfl (.int .u64 (R : Nat)) (.bool (x.e).a.v6) (.int .u64 (x.e).a.hi) (.int .u64 (x.e).a.lo) (.int .i64 (x.e).n) (.int .i64 (0))
      have B2 := Lib.hid ((low_trans L0.out hk9).trans ((bt6 w9 (w.heap.size + 1) (.int .u64 (R : Nat)) (.bool (x.e).a.v6) (.int .u64 (x.e).a.hi) (.int .u64 (x.e).a.lo) (.int .i64 (x.e).n) (.int .i64 (0))).low (by omega) (low_trans L0.out hk9).size))
      have HQ2 := Lib.hid Q2
      clear Q2 own hk9
      go_wp2_with fail
      have q0 := HQ2.out.cell (j := 0) rfl
      have q1 := HQ2.out.cell (j := 1) rfl
      have q2 := HQ2.out.cell (j := 2) rfl
      have q3 := HQ2.out.cell (j := 3) rfl
      have q4 := HQ2.out.cell (j := 4) rfl
      have q5 := HQ2.out.cell (j := 5) rfl
      exact bodyPost_ret (v := .agg #[.int .u64 (R : Nat), .bool (x.e).a.v6, .int .u64 (x.e).a.hi, .int .u64 (x.e).a.lo, .int .i64 (x.e).n, .int .i64 (0)]) (by simp [results, Try.results68, go_sem, q0, q1, q2, q3, q4, q5]) rfl ⟨rfl, B2.out⟩
    ·
      by_cases n3 : b = 3
      · subst n3
        obtain ⟨R, hR⟩ : ∃ R, R = fall (rise x.k) := ⟨_, rfl⟩
        rw [show numR x 3 s = fall (rise x.k) by unfold numR; simp, show endR x 3 = x.e by unfold endR; simp, ← hR]
        rw [← hR] at C6
        generalize rise x.k = M at C5 C6
        clear hR
        go_enter Try.func68, Try.ntmps68
        go_wp2_with fail
        have hne : Nonempty (Cls (Lows ((w.alloc (.cells #[.bool x.e.a.v6, .int .u64 x.e.a.hi, .int .u64 x.e.a.lo, .int .i64 x.e.n, .bool x.i, .int .i64 x.t, .int .i64 x.c.p, .int .i64 x.c.a, .int .i64 x.g, .int .i64 x.k] 41)).alloc (.cells #[.int .u64 0, .bool false, .int .u64 0, .int .u64 0, .int .i64 0, .int .i64 0] 98)))) := ⟨⟨_, Lows.self _⟩⟩
        have f0 : ∀ nq : Cls (Lows ((w.alloc (.cells #[.bool x.e.a.v6, .int .u64 x.e.a.hi, .int .u64 x.e.a.lo, .int .i64 x.e.n, .bool x.i, .int .i64 x.t, .int .i64 x.c.p, .int .i64 x.c.a, .int .i64 x.g, .int .i64 x.k] 41)).alloc (.cells #[.int .u64 0, .bool false, .int .u64 0, .int .u64 0, .int .i64 0, .int .i64 0] 98))), nq.w.cell? ⟨w.heap.size, 0, none⟩ = some (.bool x.e.a.v6) := fun nq => Blk.in O1 nq.h rfl
        have f1 : ∀ nq : Cls (Lows ((w.alloc (.cells #[.bool x.e.a.v6, .int .u64 x.e.a.hi, .int .u64 x.e.a.lo, .int .i64 x.e.n, .bool x.i, .int .i64 x.t, .int .i64 x.c.p, .int .i64 x.c.a, .int .i64 x.g, .int .i64 x.k] 41)).alloc (.cells #[.int .u64 0, .bool false, .int .u64 0, .int .u64 0, .int .i64 0, .int .i64 0] 98))), nq.w.cell? ⟨w.heap.size, 1, none⟩ = some (.int .u64 x.e.a.hi) := fun nq => Blk.in O1 nq.h rfl
        have f2 : ∀ nq : Cls (Lows ((w.alloc (.cells #[.bool x.e.a.v6, .int .u64 x.e.a.hi, .int .u64 x.e.a.lo, .int .i64 x.e.n, .bool x.i, .int .i64 x.t, .int .i64 x.c.p, .int .i64 x.c.a, .int .i64 x.g, .int .i64 x.k] 41)).alloc (.cells #[.int .u64 0, .bool false, .int .u64 0, .int .u64 0, .int .i64 0, .int .i64 0] 98))), nq.w.cell? ⟨w.heap.size, 2, none⟩ = some (.int .u64 x.e.a.lo) := fun nq => Blk.in O1 nq.h rfl
        have f3 : ∀ nq : Cls (Lows ((w.alloc (.cells #[.bool x.e.a.v6, .int .u64 x.e.a.hi, .int .u64 x.e.a.lo, .int .i64 x.e.n, .bool x.i, .int .i64 x.t, .int .i64 x.c.p, .int .i64 x.c.a, .int .i64 x.g, .int .i64 x.k] 41)).alloc (.cells #[.int .u64 0, .bool false, .int .u64 0, .int .u64 0, .int .i64 0, .int .i64 0] 98))), nq.w.cell? ⟨w.heap.size, 3, none⟩ = some (.int .i64 x.e.n) := fun nq => Blk.in O1 nq.h rfl
        have f9 : ∀ nq : Cls (Lows ((w.alloc (.cells #[.bool x.e.a.v6, .int .u64 x.e.a.hi, .int .u64 x.e.a.lo, .int .i64 x.e.n, .bool x.i, .int .i64 x.t, .int .i64 x.c.p, .int .i64 x.c.a, .int .i64 x.g, .int .i64 x.k] 41)).alloc (.cells #[.int .u64 0, .bool false, .int .u64 0, .int .u64 0, .int .i64 0, .int .i64 0] 98))), nq.w.cell? ⟨w.heap.size, 9, none⟩ = some (.int .i64 x.k) := fun nq => Blk.in O1 nq.h rfl
        refine Cls.tail (Lows ((w.alloc (.cells #[.bool x.e.a.v6, .int .u64 x.e.a.hi, .int .u64 x.e.a.lo, .int .i64 x.e.n, .bool x.i, .int .i64 x.t, .int .i64 x.c.p, .int .i64 x.c.a, .int .i64 x.g, .int .i64 x.k] 41)).alloc (.cells #[.int .u64 0, .bool false, .int .u64 0, .int .u64 0, .int .i64 0, .int .i64 0] 98))) 7 (by kernel_rfl) (by kernel_rfl) (low_drewN (Below.refl _ _) 1) ?_
        simp only [List.take_succ_cons, List.take_zero, List.drop_succ_cons, List.drop_zero]
        repeat (go_big_quiet_step (first | fail | (with_reducible exact Cls.call ((lows_same C5).out _ (Cls.h _))) | (with_reducible exact Cls.call ((lows_same C6).out _ (Cls.h _)))))
        refine wpQuiet_nil ?_
        intro n9
        have hk9 := n9.h
        generalize n9.w = w9 at hk9 ⊢
        clear hne n9 f0 f1 f2 f3 f9 C1 C2 C3 C4 C5 C6 C7
        have own := O2.out.on hk9
        have s0 := own.cell (j := 0) rfl
        have t0 := own.free 0
        have s1 := own.cell (j := 1) rfl
        have t1 := own.free 1
        have s2 := own.cell (j := 2) rfl
        have t2 := own.free 2
        have s3 := own.cell (j := 3) rfl
        have t3 := own.free 3
        have s4 := own.cell (j := 4) rfl
        have t4 := own.free 4
        have s5 := own.cell (j := 5) rfl
        have t5 := own.free 5
        have Q2 := put6 own rfl (.int .u64 (R : Nat)) (.bool (x.e).a.v6) (.int .u64 (x.e).a.hi) (.int .u64 (x.e).a.lo) (.int .i64 (x.e).n) (.int .i64 (0))
        have B2 := Lib.hid ((low_trans L0.out hk9).trans ((bt6 w9 (w.heap.size + 1) (.int .u64 (R : Nat)) (.bool (x.e).a.v6) (.int .u64 (x.e).a.hi) (.int .u64 (x.e).a.lo) (.int .i64 (x.e).n) (.int .i64 (0))).low (by omega) (low_trans L0.out hk9).size))
        have HQ2 := Lib.hid Q2
        clear Q2 own hk9
        go_wp2_with fail
        have q0 := HQ2.out.cell (j := 0) rfl
        have q1 := HQ2.out.cell (j := 1) rfl
        have q2 := HQ2.out.cell (j := 2) rfl
        have q3 := HQ2.out.cell (j := 3) rfl
        have q4 := HQ2.out.cell (j := 4) rfl
        have q5 := HQ2.out.cell (j := 5) rfl
        exact bodyPost_ret (v := .agg #[.int .u64 (R : Nat), .bool (x.e).a.v6, .int .u64 (x.e).a.hi, .int .u64 (x.e).a.lo, .int .i64 (x.e).n, .int .i64 (0)]) (by simp [results, Try.results68, go_sem, q0, q1, q2, q3, q4, q5]) rfl ⟨rfl, B2.out⟩
      ·
        by_cases n4 : b = 4
        · subst n4
          obtain ⟨R, hR⟩ : ∃ R, R = rise x.t := ⟨_, rfl⟩
          rw [show numR x 4 s = rise x.t by unfold numR; simp, show endR x 4 = x.e by unfold endR; simp, ← hR]
          rw [← hR] at C7
          clear hR
          go_enter Try.func68, Try.ntmps68
          go_wp2_with fail
          have hne : Nonempty (Cls (Lows ((w.alloc (.cells #[.bool x.e.a.v6, .int .u64 x.e.a.hi, .int .u64 x.e.a.lo, .int .i64 x.e.n, .bool x.i, .int .i64 x.t, .int .i64 x.c.p, .int .i64 x.c.a, .int .i64 x.g, .int .i64 x.k] 41)).alloc (.cells #[.int .u64 0, .bool false, .int .u64 0, .int .u64 0, .int .i64 0, .int .i64 0] 98)))) := ⟨⟨_, Lows.self _⟩⟩
          have f0 : ∀ nq : Cls (Lows ((w.alloc (.cells #[.bool x.e.a.v6, .int .u64 x.e.a.hi, .int .u64 x.e.a.lo, .int .i64 x.e.n, .bool x.i, .int .i64 x.t, .int .i64 x.c.p, .int .i64 x.c.a, .int .i64 x.g, .int .i64 x.k] 41)).alloc (.cells #[.int .u64 0, .bool false, .int .u64 0, .int .u64 0, .int .i64 0, .int .i64 0] 98))), nq.w.cell? ⟨w.heap.size, 0, none⟩ = some (.bool x.e.a.v6) := fun nq => Blk.in O1 nq.h rfl
          have f1 : ∀ nq : Cls (Lows ((w.alloc (.cells #[.bool x.e.a.v6, .int .u64 x.e.a.hi, .int .u64 x.e.a.lo, .int .i64 x.e.n, .bool x.i, .int .i64 x.t, .int .i64 x.c.p, .int .i64 x.c.a, .int .i64 x.g, .int .i64 x.k] 41)).alloc (.cells #[.int .u64 0, .bool false, .int .u64 0, .int .u64 0, .int .i64 0, .int .i64 0] 98))), nq.w.cell? ⟨w.heap.size, 1, none⟩ = some (.int .u64 x.e.a.hi) := fun nq => Blk.in O1 nq.h rfl
          have f2 : ∀ nq : Cls (Lows ((w.alloc (.cells #[.bool x.e.a.v6, .int .u64 x.e.a.hi, .int .u64 x.e.a.lo, .int .i64 x.e.n, .bool x.i, .int .i64 x.t, .int .i64 x.c.p, .int .i64 x.c.a, .int .i64 x.g, .int .i64 x.k] 41)).alloc (.cells #[.int .u64 0, .bool false, .int .u64 0, .int .u64 0, .int .i64 0, .int .i64 0] 98))), nq.w.cell? ⟨w.heap.size, 2, none⟩ = some (.int .u64 x.e.a.lo) := fun nq => Blk.in O1 nq.h rfl
          have f3 : ∀ nq : Cls (Lows ((w.alloc (.cells #[.bool x.e.a.v6, .int .u64 x.e.a.hi, .int .u64 x.e.a.lo, .int .i64 x.e.n, .bool x.i, .int .i64 x.t, .int .i64 x.c.p, .int .i64 x.c.a, .int .i64 x.g, .int .i64 x.k] 41)).alloc (.cells #[.int .u64 0, .bool false, .int .u64 0, .int .u64 0, .int .i64 0, .int .i64 0] 98))), nq.w.cell? ⟨w.heap.size, 3, none⟩ = some (.int .i64 x.e.n) := fun nq => Blk.in O1 nq.h rfl
          have f5 : ∀ nq : Cls (Lows ((w.alloc (.cells #[.bool x.e.a.v6, .int .u64 x.e.a.hi, .int .u64 x.e.a.lo, .int .i64 x.e.n, .bool x.i, .int .i64 x.t, .int .i64 x.c.p, .int .i64 x.c.a, .int .i64 x.g, .int .i64 x.k] 41)).alloc (.cells #[.int .u64 0, .bool false, .int .u64 0, .int .u64 0, .int .i64 0, .int .i64 0] 98))), nq.w.cell? ⟨w.heap.size, 5, none⟩ = some (.int .i64 x.t) := fun nq => Blk.in O1 nq.h rfl
          refine Cls.tail (Lows ((w.alloc (.cells #[.bool x.e.a.v6, .int .u64 x.e.a.hi, .int .u64 x.e.a.lo, .int .i64 x.e.n, .bool x.i, .int .i64 x.t, .int .i64 x.c.p, .int .i64 x.c.a, .int .i64 x.g, .int .i64 x.k] 41)).alloc (.cells #[.int .u64 0, .bool false, .int .u64 0, .int .u64 0, .int .i64 0, .int .i64 0] 98))) 6 (by kernel_rfl) (by kernel_rfl) (low_drewN (Below.refl _ _) 1) ?_
          simp only [List.take_succ_cons, List.take_zero, List.drop_succ_cons, List.drop_zero]
          repeat (go_big_quiet_step (first | fail | (with_reducible exact Cls.call ((lows_same C7).out _ (Cls.h _)))))
          refine wpQuiet_nil ?_
          intro n9
          have hk9 := n9.h
          generalize n9.w = w9 at hk9 ⊢
          clear hne n9 f0 f1 f2 f3 f5 C1 C2 C3 C4 C5 C6 C7
          have own := O2.out.on hk9
          have s0 := own.cell (j := 0) rfl
          have t0 := own.free 0
          have s1 := own.cell (j := 1) rfl
          have t1 := own.free 1
          have s2 := own.cell (j := 2) rfl
          have t2 := own.free 2
          have s3 := own.cell (j := 3) rfl
          have t3 := own.free 3
          have s4 := own.cell (j := 4) rfl
          have t4 := own.free 4
          have s5 := own.cell (j := 5) rfl
          have t5 := own.free 5
          have Q2 := put6 own rfl (.int .u64 (R : Nat)) (.bool (x.e).a.v6) (.int .u64 (x.e).a.hi) (.int .u64 (x.e).a.lo) (.int .i64 (x.e).n) (.int .i64 (0))
          have B2 := Lib.hid ((low_trans L0.out hk9).trans ((bt6 w9 (w.heap.size + 1) (.int .u64 (R : Nat)) (.bool (x.e).a.v6) (.int .u64 (x.e).a.hi) (.int .u64 (x.e).a.lo) (.int .i64 (x.e).n) (.int .i64 (0))).low (by omega) (low_trans L0.out hk9).size))
          have HQ2 := Lib.hid Q2
          clear Q2 own hk9
          go_wp2_with fail
          have q0 := HQ2.out.cell (j := 0) rfl
          have q1 := HQ2.out.cell (j := 1) rfl
          have q2 := HQ2.out.cell (j := 2) rfl
          have q3 := HQ2.out.cell (j := 3) rfl
          have q4 := HQ2.out.cell (j := 4) rfl
          have q5 := HQ2.out.cell (j := 5) rfl
          exact bodyPost_ret (v := .agg #[.int .u64 (R : Nat), .bool (x.e).a.v6, .int .u64 (x.e).a.hi, .int .u64 (x.e).a.lo, .int .i64 (x.e).n, .int .i64 (0)]) (by simp [results, Try.results68, go_sem, q0, q1, q2, q3, q4, q5]) rfl ⟨rfl, B2.out⟩
        ·
          have z1 : (b == 1) = false := by rw [beq_eq_false_iff_ne]; exact n1
          have z2 : (b == 2) = false := by rw [beq_eq_false_iff_ne]; exact n2
          have z3 : (b == 3) = false := by rw [beq_eq_false_iff_ne]; exact n3
          have z4 : (b == 4) = false := by rw [beq_eq_false_iff_ne]; exact n4
          rw [show numR x b s = 0 by unfold numR; rw [if_neg n1, if_neg n2, if_neg n3, if_neg n4], show endR x b = zeroE by unfold endR; rw [if_neg (by omega)]]
          clear C1 C2 C3 C4 C5 C6 C7
          go_enter Try.func68, Try.ntmps68
          go_wp2_with fail
          exact bodyPost_ret (v := .agg #[.int .u64 0, .bool false, .int .u64 0, .int .u64 0, .int .i64 0, .int .i64 0]) (by simp [results, Try.results68, go_sem]) rfl ⟨rfl, L0.out⟩
end Go.Proofs.Ythmcggbmeabpmaa.Ra
