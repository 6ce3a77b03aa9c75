/- Package entry and the answers of its document, layer 25: the mathematics, the contracts. -/
import Derived.Test.YtnknhmfhejdbfaaBackoff
import Derived.Test.YtnknhmfhejdbfaaRef09All
import Derived.Test.YtnknhmfhejdbfaaBox
import Derived.Test.YtnknhmfhejdbfaaTail
import Derived.Lib.MinMax
namespace Go.Proofs.Ytnknhmfhejdbfaa.Et
set_option maxRecDepth 100000
open Go.ChangeShapes Go.WideShapes Go.ChangeAt Go.RowKit
open Ad Ci En Sat Bk
set_option linter.unusedVariables false
/-- An entry of the book: its end, its state, how often dialling failed, from when on it may be dialled. -/
structure Ey where
  e : Endp
  st : Int
  f : Int
  nx : Int
structure Ey.ok (y : Ey) : Prop where
  he : y.e.ok
  hst : i64B y.st
  hf : i64B y.f
  hnx : i64B y.nx
def encY (y : Ey) : List Value := [.bool y.e.a.v6, .int .u64 y.e.a.hi, .int .u64 y.e.a.lo, .int .i64 y.e.n, .int .i64 y.st, .int .i64 y.f, .int .i64 y.nx]
theorem encY_len (y : Ey) : (encY y).length = 7 := rfl
def inB (n a b : Int) : Bool := decide (a ≤ n) && decide (n ≤ b)
theorem inB_iff (n a b : Int) : inB n a b = true ↔ a ≤ n ∧ n ≤ b := by unfold inB; simp
def rightY (y : Ey) : Bool := rightE y.e && inB y.st 1 3 && inB y.f 0 1000 && inB y.nx 0 1099511627776
theorem rightY_iff (y : Ey) : rightY y = true ↔ rightE y.e = true ∧ (1 ≤ y.st ∧ y.st ≤ 3) ∧ (0 ≤ y.f ∧ y.f ≤ 1000) ∧ (0 ≤ y.nx ∧ y.nx ≤ 1099511627776) := by
  unfold rightY; simp only [Bool.and_eq_true, inB_iff, and_assoc]
def newY (e : Endp) (n : Int) : Ey := ⟨e, 1, 0, fit n⟩
def dueY (y : Ey) (n : Int) : Bool := y.st == 1 && decide (y.nx ≤ n)
def stateY (y : Ey) (s : Int) : Ey := ⟨y.e, s, y.f, y.nx⟩
def goodY (y : Ey) : Ey := ⟨y.e, 3, 0, y.nx⟩
def moreF (f : Int) : Int := min (max f 0) 999 + 1
def failY (c : Cf) (y : Ey) (n j : Int) : Ey := ⟨y.e, 1, moreF y.f, nextR c (moreF y.f) n j⟩
theorem more_bd (f : Int) : 1 ≤ moreF f ∧ moreF f ≤ 1000 := by unfold moreF; omega
theorem more_right {f : Int} (h : 0 ≤ f ∧ f ≤ 1000) : moreF f = min (f + 1) 1000 := by unfold moreF; omega
theorem next_bd (c : Cf) (f n j : Int) : 0 ≤ nextR c f n j ∧ nextR c f n j ≤ 1099511627776 := add_bd _ _
theorem new_right {e : Endp} (h : rightE e = true) (n : Int) : rightY (newY e n) = true := (rightY_iff _).2 ⟨h, by show (1 : Int) ≤ 1 ∧ (1 : Int) ≤ 3; decide, by show (0 : Int) ≤ 0 ∧ (0 : Int) ≤ 1000; decide, fit_bd n⟩
theorem state_right {y : Ey} (h : rightY y = true) {s : Int} (hs : 1 ≤ s ∧ s ≤ 3) : rightY (stateY y s) = true := by
  have k := (rightY_iff _).1 h
  exact (rightY_iff _).2 ⟨k.1, hs, k.2.2.1, k.2.2.2⟩
theorem good_right {y : Ey} (h : rightY y = true) : rightY (goodY y) = true := by
  have k := (rightY_iff _).1 h
  exact (rightY_iff _).2 ⟨k.1, by show (1 : Int) ≤ 3 ∧ (3 : Int) ≤ 3; decide, by show (0 : Int) ≤ 0 ∧ (0 : Int) ≤ 1000; decide, k.2.2.2⟩
theorem fail_right {y : Ey} (h : rightY y = true) (c : Cf) (n j : Int) : rightY (failY c y n j) = true := by
  have k := (rightY_iff _).1 h
  have m := more_bd y.f
  exact (rightY_iff _).2 ⟨k.1, by show (1 : Int) ≤ 1 ∧ (1 : Int) ≤ 3; decide, ⟨by show 0 ≤ moreF y.f; omega, m.2⟩, next_bd _ _ _ _⟩
theorem right_ok {y : Ey} (he : y.e.ok) (h : rightY y = true) : y.ok := by
  have k := (rightY_iff _).1 h
  refine ⟨he, ?_, ?_, ?_⟩ <;> unfold i64B <;> omega
theorem fail_due (c : Cf) (y : Ey) (n j : Int) : dueY (failY c y n j) (nextR c (moreF y.f) n j - 1) = false ∧ dueY (failY c y n j) (nextR c (moreF y.f) n j) = true := by
  unfold dueY failY
  constructor
  · simp; omega
  · simp
theorem withinY_any (n a b : Int) (w : World) : Calls Try.prog 23 #[.int .i64 n, .int .i64 a, .int .i64 b] w fun e w' => e = .returned (.bool (inB n a b)) ∧ w = w' := by
  by_cases h : a ≤ n
  · have E : inB n a b = decide (n ≤ b) := by unfold inB; simp [h]
    rw [E]
    go_enter Try.func23, Try.ntmps23
    go_wp2
    go_ret
    exact ⟨rfl, rfl⟩
  · have E : inB n a b = false := by unfold inB; simp [h]
    rw [E]
    go_enter Try.func23, Try.ntmps23
    go_wp2
    go_ret
    exact ⟨rfl, rfl⟩
set_option maxHeartbeats 4000000 in
theorem rightY_any (y : Ey) (hy : y.ok) (w : World) : Calls Try.prog 5 #[.agg #[.bool y.e.a.v6, .int .u64 y.e.a.hi, .int .u64 y.e.a.lo, .int .i64 y.e.n, .int .i64 y.st, .int .i64 y.f, .int .i64 y.nx]] w fun e w' => e = .returned (.bool (rightY y)) ∧ Below w.heap.size w w' := by
  have L0 : Hid (Below w.heap.size w (w.alloc (.cells #[.bool y.e.a.v6, .int .u64 y.e.a.hi, .int .u64 y.e.a.lo, .int .i64 y.e.n, .int .i64 y.st, .int .i64 y.f, .int .i64 y.nx] 32))) := Lib.hid (Lows.alloc (Lows.self w) _)
  have OB := Lib.hid (Blk.new w #[.bool y.e.a.v6, .int .u64 y.e.a.hi, .int .u64 y.e.a.lo, .int .i64 y.e.n, .int .i64 y.st, .int .i64 y.f, .int .i64 y.nx] 32)
  have E : Hid (rightY y = (rightE y.e && inB y.st 1 3 && inB y.f 0 1000 && inB y.nx 0 1099511627776)) := Lib.hid rfl
  have KE := Lib.hid (fun W => rightE_any y.e W hy.he)
  have K1 := Lib.hid (fun W => withinY_any y.st 1 3 W)
  have K2 := Lib.hid (fun W => withinY_any y.f 0 1000 W)
  have K3 := Lib.hid (fun W => withinY_any y.nx 0 1099511627776 W)
  generalize rightY y = r at *
  generalize rightE y.e = be at *
  generalize inB y.st 1 3 = b1 at *
  generalize inB y.f 0 1000 = b2 at *
  generalize inB y.nx 0 1099511627776 = b3 at *
  clear hy
  go_enter Try.func5, Try.ntmps5
  go_wp2_with fail
  refine (KE.out _).mono ?_; rintro e w1 ⟨rfl, hb1⟩
  have L1 := Lib.hid (low_trans L0.out hb1)
  have own := OB.out.on hb1
  have s4 := own.cell (j := 4) rfl
  have s5 := own.cell (j := 5) rfl
  have s6 := own.cell (j := 6) rfl
  clear own hb1
  cases be
  · go_wp2_with fail
    go_ret
    exact ⟨ret_b (by rw [E.out]; first | rfl | (simp; done)), L1.out⟩
  · go_wp2_with fail
    refine (K1.out _).mono ?_; rintro e w' ⟨rfl, rfl⟩
    cases b1
    · go_wp2_with fail
      go_ret
      exact ⟨ret_b (by rw [E.out]; first | rfl | (simp; done)), L1.out⟩
    · go_wp2_with fail
      refine (K2.out _).mono ?_; rintro e w' ⟨rfl, rfl⟩
      cases b2
      · go_wp2_with fail
        go_ret
        exact ⟨ret_b (by rw [E.out]; first | rfl | (simp; done)), L1.out⟩
      · go_wp2_with fail
        refine (K3.out _).mono ?_; rintro e w' ⟨rfl, rfl⟩
        go_wp2_with fail
        go_ret
        exact ⟨ret_b (by rw [E.out]; first | rfl | (simp; done)), L1.out⟩
set_option maxHeartbeats 4000000 in
theorem rrightY_any (y : Ey) (hy : y.ok) (w : World) : Calls Try.prog 6 #[.agg #[.bool y.e.a.v6, .int .u64 y.e.a.hi, .int .u64 y.e.a.lo, .int .i64 y.e.n, .int .i64 y.st, .int .i64 y.f, .int .i64 y.nx]] w fun e w' => e = .returned (.bool (rightY y)) ∧ Below w.heap.size w w' := by
  have L0 : Hid (Below w.heap.size w (w.alloc (.cells #[.bool y.e.a.v6, .int .u64 y.e.a.hi, .int .u64 y.e.a.lo, .int .i64 y.e.n, .int .i64 y.st, .int .i64 y.f, .int .i64 y.nx] 32))) := Lib.hid (Lows.alloc (Lows.self w) _)
  have OB := Lib.hid (Blk.new w #[.bool y.e.a.v6, .int .u64 y.e.a.hi, .int .u64 y.e.a.lo, .int .i64 y.e.n, .int .i64 y.st, .int .i64 y.f, .int .i64 y.nx] 32)
  have E : Hid (rightY y = (rightE y.e && inB y.st 1 3 && inB y.f 0 1000 && inB y.nx 0 1099511627776)) := Lib.hid rfl
  have KE := Lib.hid (fun W => rrightE_any y.e W hy.he)
  generalize rightY y = r at *
  generalize rightE y.e = be at *
  clear hy
  go_enter Try.func6, Try.ntmps6
  go_wp2_with fail
  refine (KE.out _).mono ?_; rintro e w1 ⟨rfl, hb1⟩
  have L1 := Lib.hid (low_trans L0.out hb1)
  have own := OB.out.on hb1
  have s4 := own.cell (j := 4) rfl
  have s5 := own.cell (j := 5) rfl
  have s6 := own.cell (j := 6) rfl
  clear own hb1
  cases be
  · go_wp2_with fail
    go_ret
    exact ⟨ret_b (by rw [E.out]; first | rfl | (simp; done)), L1.out⟩
  · by_cases h0 : 1 ≤ y.st
    · by_cases h1 : y.st ≤ 3
      · by_cases h2 : 0 ≤ y.f
        · by_cases h3 : y.f ≤ 1000
          · by_cases h4 : 0 ≤ y.nx
            · go_wp2_with fail
              go_ret
              exact ⟨ret_b (by rw [E.out]; unfold inB; (try rw [Bool.eq_iff_iff]); (first | (simp; done) | (simp; omega) | (simp only [Bool.and_eq_true, Bool.true_and, decide_eq_true_eq, Bool.false_eq_true]; omega))), L1.out⟩
            · go_wp2_with fail
              go_ret
              exact ⟨ret_b (by rw [E.out]; unfold inB; (try rw [Bool.eq_iff_iff]); (first | (simp; done) | (simp; omega) | (simp only [Bool.and_eq_true, Bool.true_and, decide_eq_true_eq, Bool.false_eq_true]; omega))), L1.out⟩
          · go_wp2_with fail
            go_ret
            exact ⟨ret_b (by rw [E.out]; unfold inB; (try rw [Bool.eq_iff_iff]); (first | (simp; done) | (simp; omega) | (simp only [Bool.and_eq_true, Bool.true_and, decide_eq_true_eq, Bool.false_eq_true]; omega))), L1.out⟩
        · go_wp2_with fail
          go_ret
          exact ⟨ret_b (by rw [E.out]; unfold inB; (try rw [Bool.eq_iff_iff]); (first | (simp; done) | (simp; omega) | (simp only [Bool.and_eq_true, Bool.true_and, decide_eq_true_eq, Bool.false_eq_true]; omega))), L1.out⟩
      · go_wp2_with fail
        go_ret
        exact ⟨ret_b (by rw [E.out]; unfold inB; (try rw [Bool.eq_iff_iff]); (first | (simp; done) | (simp; omega) | (simp only [Bool.and_eq_true, Bool.true_and, decide_eq_true_eq, Bool.false_eq_true]; omega))), L1.out⟩
    · go_wp2_with fail
      go_ret
      exact ⟨ret_b (by rw [E.out]; unfold inB; (try rw [Bool.eq_iff_iff]); (first | (simp; done) | (simp; omega) | (simp only [Bool.and_eq_true, Bool.true_and, decide_eq_true_eq, Bool.false_eq_true]; omega))), L1.out⟩
set_option maxHeartbeats 4000000 in
theorem due_any (y : Ey) (n : Int) (w : World) : Calls Try.prog 9 #[.agg #[.bool y.e.a.v6, .int .u64 y.e.a.hi, .int .u64 y.e.a.lo, .int .i64 y.e.n, .int .i64 y.st, .int .i64 y.f, .int .i64 y.nx], .int .i64 n] w fun e w' => e = .returned (.bool (dueY y n)) ∧ Below w.heap.size w w' := by
  have L0 : Hid (Below w.heap.size w (w.alloc (.cells #[.bool y.e.a.v6, .int .u64 y.e.a.hi, .int .u64 y.e.a.lo, .int .i64 y.e.n, .int .i64 y.st, .int .i64 y.f, .int .i64 y.nx] 32))) := Lib.hid (Lows.alloc (Lows.self w) _)
  have OB := Lib.hid (Blk.new w #[.bool y.e.a.v6, .int .u64 y.e.a.hi, .int .u64 y.e.a.lo, .int .i64 y.e.n, .int .i64 y.st, .int .i64 y.f, .int .i64 y.nx] 32)
  by_cases h : y.st = 1
  · have E : Hid (dueY y n = decide (y.nx ≤ n)) := Lib.hid (by unfold dueY; rw [h]; simp)
    have hq : (y.st == 1) = true := by rw [beq_iff_eq]; exact h
    clear h
    go_enter Try.func9, Try.ntmps9
    go_wp2_with fail
    go_ret
    exact ⟨ret_b (by rw [E.out]), L0.out⟩
  · have hq : (y.st == 1) = false := by rw [beq_eq_false_iff_ne]; exact h
    have E : Hid (dueY y n = false) := Lib.hid (by unfold dueY; rw [hq]; simp)
    clear h
    go_enter Try.func9, Try.ntmps9
    go_wp2_with fail
    go_ret
    exact ⟨ret_b (by rw [E.out]), L0.out⟩
set_option maxHeartbeats 4000000 in
theorem rdue_any (y : Ey) (n : Int) (w : World) : Calls Try.prog 10 #[.agg #[.bool y.e.a.v6, .int .u64 y.e.a.hi, .int .u64 y.e.a.lo, .int .i64 y.e.n, .int .i64 y.st, .int .i64 y.f, .int .i64 y.nx], .int .i64 n] w fun e w' => e = .returned (.bool (dueY y n)) ∧ Below w.heap.size w w' := by
  have L0 : Hid (Below w.heap.size w (w.alloc (.cells #[.bool y.e.a.v6, .int .u64 y.e.a.hi, .int .u64 y.e.a.lo, .int .i64 y.e.n, .int .i64 y.st, .int .i64 y.f, .int .i64 y.nx] 32))) := Lib.hid (Lows.alloc (Lows.self w) _)
  have OB := Lib.hid (Blk.new w #[.bool y.e.a.v6, .int .u64 y.e.a.hi, .int .u64 y.e.a.lo, .int .i64 y.e.n, .int .i64 y.st, .int .i64 y.f, .int .i64 y.nx] 32)
  by_cases h : y.st = 1
  · have E : Hid (dueY y n = decide (y.nx ≤ n)) := Lib.hid (by unfold dueY; rw [h]; simp)
    have hq : (y.st == 1) = true := by rw [beq_iff_eq]; exact h
    clear h
    go_enter Try.func10, Try.ntmps10
    go_wp2_with fail
    go_ret
    exact ⟨ret_b (by rw [E.out]), L0.out⟩
  · have hq : (y.st == 1) = false := by rw [beq_eq_false_iff_ne]; exact h
    have E : Hid (dueY y n = false) := Lib.hid (by unfold dueY; rw [hq]; simp)
    clear h
    go_enter Try.func10, Try.ntmps10
    go_wp2_with fail
    go_ret
    exact ⟨ret_b (by rw [E.out]), L0.out⟩
set_option maxHeartbeats 4000000 in
theorem fly_any (y : Ey) (w : World) : Calls Try.prog 11 #[.agg #[.bool y.e.a.v6, .int .u64 y.e.a.hi, .int .u64 y.e.a.lo, .int .i64 y.e.n, .int .i64 y.st, .int .i64 y.f, .int .i64 y.nx]] w fun e w' => e = .returned (.agg #[.bool (stateY y 2).e.a.v6, .int .u64 (stateY y 2).e.a.hi, .int .u64 (stateY y 2).e.a.lo, .int .i64 (stateY y 2).e.n, .int .i64 (stateY y 2).st, .int .i64 (stateY y 2).f, .int .i64 (stateY y 2).nx]) ∧ Below w.heap.size w w' := by
  show Calls Try.prog 11 #[.agg #[.bool y.e.a.v6, .int .u64 y.e.a.hi, .int .u64 y.e.a.lo, .int .i64 y.e.n, .int .i64 y.st, .int .i64 y.f, .int .i64 y.nx]] w fun e w' => e = .returned (.agg #[.bool y.e.a.v6, .int .u64 y.e.a.hi, .int .u64 y.e.a.lo, .int .i64 y.e.n, .int .i64 2, .int .i64 y.f, .int .i64 y.nx]) ∧ Below w.heap.size w w'
  have L0 : Hid (Lows w ((w.alloc (.cells #[.bool y.e.a.v6, .int .u64 y.e.a.hi, .int .u64 y.e.a.lo, .int .i64 y.e.n, .int .i64 y.st, .int .i64 y.f, .int .i64 y.nx] 32)).alloc (.cells #[.bool false, .int .u64 0, .int .u64 0, .int .i64 0, .int .i64 0, .int .i64 0, .int .i64 0] 32))) := Lib.hid (Lows.alloc (Lows.alloc (Lows.self w) _) _)
  go_enter Try.func11, Try.ntmps11
  go_wp2_with fail
  exact bodyPost_ret (v := .agg #[.bool y.e.a.v6, .int .u64 y.e.a.hi, .int .u64 y.e.a.lo, .int .i64 y.e.n, .int .i64 2, .int .i64 y.f, .int .i64 y.nx]) (by simp [results, Try.results11, go_sem]) rfl ⟨rfl, by repeat (first | (with_reducible exact L0.out) | (with_reducible exact Lows.alloc (Lows.alloc (Lows.self _) _) _) | (with_reducible refine Below.setCell ?_ (by first | exact Nat.le_refl _ | exact Nat.le_succ _ | (simp; done) | (simp; omega)) _) | (refine low_drewN ?_ 1))⟩
set_option maxHeartbeats 4000000 in
theorem down_any (y : Ey) (w : World) : Calls Try.prog 17 #[.agg #[.bool y.e.a.v6, .int .u64 y.e.a.hi, .int .u64 y.e.a.lo, .int .i64 y.e.n, .int .i64 y.st, .int .i64 y.f, .int .i64 y.nx]] w fun e w' => e = .returned (.agg #[.bool (stateY y 1).e.a.v6, .int .u64 (stateY y 1).e.a.hi, .int .u64 (stateY y 1).e.a.lo, .int .i64 (stateY y 1).e.n, .int .i64 (stateY y 1).st, .int .i64 (stateY y 1).f, .int .i64 (stateY y 1).nx]) ∧ Below w.heap.size w w' := by
  show Calls Try.prog 17 #[.agg #[.bool y.e.a.v6, .int .u64 y.e.a.hi, .int .u64 y.e.a.lo, .int .i64 y.e.n, .int .i64 y.st, .int .i64 y.f, .int .i64 y.nx]] w fun e w' => e = .returned (.agg #[.bool y.e.a.v6, .int .u64 y.e.a.hi, .int .u64 y.e.a.lo, .int .i64 y.e.n, .int .i64 1, .int .i64 y.f, .int .i64 y.nx]) ∧ Below w.heap.size w w'
  have L0 : Hid (Lows w ((w.alloc (.cells #[.bool y.e.a.v6, .int .u64 y.e.a.hi, .int .u64 y.e.a.lo, .int .i64 y.e.n, .int .i64 y.st, .int .i64 y.f, .int .i64 y.nx] 32)).alloc (.cells #[.bool false, .int .u64 0, .int .u64 0, .int .i64 0, .int .i64 0, .int .i64 0, .int .i64 0] 32))) := Lib.hid (Lows.alloc (Lows.alloc (Lows.self w) _) _)
  go_enter Try.func17, Try.ntmps17
  go_wp2_with fail
  exact bodyPost_ret (v := .agg #[.bool y.e.a.v6, .int .u64 y.e.a.hi, .int .u64 y.e.a.lo, .int .i64 y.e.n, .int .i64 1, .int .i64 y.f, .int .i64 y.nx]) (by simp [results, Try.results17, go_sem]) rfl ⟨rfl, by repeat (first | (with_reducible exact L0.out) | (with_reducible exact Lows.alloc (Lows.alloc (Lows.self _) _) _) | (with_reducible refine Below.setCell ?_ (by first | exact Nat.le_refl _ | exact Nat.le_succ _ | (simp; done) | (simp; omega)) _) | (refine low_drewN ?_ 1))⟩
set_option maxHeartbeats 4000000 in
theorem good_any (y : Ey) (w : World) : Calls Try.prog 15 #[.agg #[.bool y.e.a.v6, .int .u64 y.e.a.hi, .int .u64 y.e.a.lo, .int .i64 y.e.n, .int .i64 y.st, .int .i64 y.f, .int .i64 y.nx]] w fun e w' => e = .returned (.agg #[.bool (goodY y).e.a.v6, .int .u64 (goodY y).e.a.hi, .int .u64 (goodY y).e.a.lo, .int .i64 (goodY y).e.n, .int .i64 (goodY y).st, .int .i64 (goodY y).f, .int .i64 (goodY y).nx]) ∧ Below w.heap.size w w' := by
  show Calls Try.prog 15 #[.agg #[.bool y.e.a.v6, .int .u64 y.e.a.hi, .int .u64 y.e.a.lo, .int .i64 y.e.n, .int .i64 y.st, .int .i64 y.f, .int .i64 y.nx]] w fun e w' => e = .returned (.agg #[.bool y.e.a.v6, .int .u64 y.e.a.hi, .int .u64 y.e.a.lo, .int .i64 y.e.n, .int .i64 3, .int .i64 0, .int .i64 y.nx]) ∧ Below w.heap.size w w'
  have L0 : Hid (Lows w ((w.alloc (.cells #[.bool y.e.a.v6, .int .u64 y.e.a.hi, .int .u64 y.e.a.lo, .int .i64 y.e.n, .int .i64 y.st, .int .i64 y.f, .int .i64 y.nx] 32)).alloc (.cells #[.bool false, .int .u64 0, .int .u64 0, .int .i64 0, .int .i64 0, .int .i64 0, .int .i64 0] 32))) := Lib.hid (Lows.alloc (Lows.alloc (Lows.self w) _) _)
  go_enter Try.func15, Try.ntmps15
  go_wp2_with fail
  exact bodyPost_ret (v := .agg #[.bool y.e.a.v6, .int .u64 y.e.a.hi, .int .u64 y.e.a.lo, .int .i64 y.e.n, .int .i64 3, .int .i64 0, .int .i64 y.nx]) (by simp [results, Try.results15, go_sem]) rfl ⟨rfl, by repeat (first | (with_reducible exact L0.out) | (with_reducible exact Lows.alloc (Lows.alloc (Lows.self _) _) _) | (with_reducible refine Below.setCell ?_ (by first | exact Nat.le_refl _ | exact Nat.le_succ _ | (simp; done) | (simp; omega)) _) | (refine low_drewN ?_ 1))⟩
set_option maxHeartbeats 4000000 in
theorem rstate_any (y : Ey) (s : Int) (w : World) : Calls Try.prog 12 #[.agg #[.bool y.e.a.v6, .int .u64 y.e.a.hi, .int .u64 y.e.a.lo, .int .i64 y.e.n, .int .i64 y.st, .int .i64 y.f, .int .i64 y.nx], .int .i64 s] w fun e w' => e = .returned (.agg #[.bool (stateY y s).e.a.v6, .int .u64 (stateY y s).e.a.hi, .int .u64 (stateY y s).e.a.lo, .int .i64 (stateY y s).e.n, .int .i64 (stateY y s).st, .int .i64 (stateY y s).f, .int .i64 (stateY y s).nx]) ∧ Below w.heap.size w w' := by
  show Calls Try.prog 12 #[.agg #[.bool y.e.a.v6, .int .u64 y.e.a.hi, .int .u64 y.e.a.lo, .int .i64 y.e.n, .int .i64 y.st, .int .i64 y.f, .int .i64 y.nx], .int .i64 s] w fun e w' => e = .returned (.agg #[.bool y.e.a.v6, .int .u64 y.e.a.hi, .int .u64 y.e.a.lo, .int .i64 y.e.n, .int .i64 s, .int .i64 y.f, .int .i64 y.nx]) ∧ Below w.heap.size w w'
  have L0 : Hid (Lows w ((w.alloc (.cells #[.bool y.e.a.v6, .int .u64 y.e.a.hi, .int .u64 y.e.a.lo, .int .i64 y.e.n, .int .i64 y.st, .int .i64 y.f, .int .i64 y.nx] 32)).alloc (.cells #[.bool false, .int .u64 0, .int .u64 0, .int .i64 0, .int .i64 0, .int .i64 0, .int .i64 0] 32))) := Lib.hid (Lows.alloc (Lows.alloc (Lows.self w) _) _)
  go_enter Try.func12, Try.ntmps12
  go_wp2_with fail
  exact bodyPost_ret (v := .agg #[.bool y.e.a.v6, .int .u64 y.e.a.hi, .int .u64 y.e.a.lo, .int .i64 y.e.n, .int .i64 s, .int .i64 y.f, .int .i64 y.nx]) (by simp [results, Try.results12, go_sem]) rfl ⟨rfl, by repeat (first | (with_reducible exact L0.out) | (with_reducible exact Lows.alloc (Lows.alloc (Lows.self _) _) _) | (with_reducible refine Below.setCell ?_ (by first | exact Nat.le_refl _ | exact Nat.le_succ _ | (simp; done) | (simp; omega)) _) | (refine low_drewN ?_ 1))⟩
set_option maxHeartbeats 4000000 in
theorem rgood_any (y : Ey) (w : World) : Calls Try.prog 16 #[.agg #[.bool y.e.a.v6, .int .u64 y.e.a.hi, .int .u64 y.e.a.lo, .int .i64 y.e.n, .int .i64 y.st, .int .i64 y.f, .int .i64 y.nx]] w fun e w' => e = .returned (.agg #[.bool (goodY y).e.a.v6, .int .u64 (goodY y).e.a.hi, .int .u64 (goodY y).e.a.lo, .int .i64 (goodY y).e.n, .int .i64 (goodY y).st, .int .i64 (goodY y).f, .int .i64 (goodY y).nx]) ∧ Below w.heap.size w w' := by
  show Calls Try.prog 16 #[.agg #[.bool y.e.a.v6, .int .u64 y.e.a.hi, .int .u64 y.e.a.lo, .int .i64 y.e.n, .int .i64 y.st, .int .i64 y.f, .int .i64 y.nx]] w fun e w' => e = .returned (.agg #[.bool y.e.a.v6, .int .u64 y.e.a.hi, .int .u64 y.e.a.lo, .int .i64 y.e.n, .int .i64 3, .int .i64 0, .int .i64 y.nx]) ∧ Below w.heap.size w w'
  have L0 : Hid (Lows w ((w.alloc (.cells #[.bool y.e.a.v6, .int .u64 y.e.a.hi, .int .u64 y.e.a.lo, .int .i64 y.e.n, .int .i64 y.st, .int .i64 y.f, .int .i64 y.nx] 32)).alloc (.cells #[.bool false, .int .u64 0, .int .u64 0, .int .i64 0, .int .i64 0, .int .i64 0, .int .i64 0] 32))) := Lib.hid (Lows.alloc (Lows.alloc (Lows.self w) _) _)
  go_enter Try.func16, Try.ntmps16
  go_wp2_with fail
  exact bodyPost_ret (v := .agg #[.bool y.e.a.v6, .int .u64 y.e.a.hi, .int .u64 y.e.a.lo, .int .i64 y.e.n, .int .i64 3, .int .i64 0, .int .i64 y.nx]) (by simp [results, Try.results16, go_sem]) rfl ⟨rfl, by repeat (first | (with_reducible exact L0.out) | (with_reducible exact Lows.alloc (Lows.alloc (Lows.self _) _) _) | (with_reducible refine Below.setCell ?_ (by first | exact Nat.le_refl _ | exact Nat.le_succ _ | (simp; done) | (simp; omega)) _) | (refine low_drewN ?_ 1))⟩
set_option maxHeartbeats 4000000 in
theorem newY_any (e : Endp) (n : Int) (w : World) : Calls Try.prog 7 #[.agg #[.bool e.a.v6, .int .u64 e.a.hi, .int .u64 e.a.lo, .int .i64 e.n], .int .i64 n] w fun r w' => r = .returned (.agg #[.bool (newY e n).e.a.v6, .int .u64 (newY e n).e.a.hi, .int .u64 (newY e n).e.a.lo, .int .i64 (newY e n).e.n, .int .i64 (newY e n).st, .int .i64 (newY e n).f, .int .i64 (newY e n).nx]) ∧ Below w.heap.size w w' := by
  show Calls Try.prog 7 #[.agg #[.bool e.a.v6, .int .u64 e.a.hi, .int .u64 e.a.lo, .int .i64 e.n], .int .i64 n] w fun r w' => r = .returned (.agg #[.bool e.a.v6, .int .u64 e.a.hi, .int .u64 e.a.lo, .int .i64 e.n, .int .i64 1, .int .i64 0, .int .i64 (fit n)]) ∧ Below w.heap.size w w'
  have C1 := Lib.hid (fun W => fit_any n W)
  generalize fit n = m at *
  have L0 : Hid (Lows w ((w.alloc (.cells #[.bool e.a.v6, .int .u64 e.a.hi, .int .u64 e.a.lo, .int .i64 e.n] 30)).alloc (.cells #[.bool false, .int .u64 0, .int .u64 0, .int .i64 0, .int .i64 0, .int .i64 0, .int .i64 0] 32))) := Lib.hid (Lows.alloc (Lows.alloc (Lows.self w) _) _)
  have OA := Lib.hid ((Blk.new w #[.bool e.a.v6, .int .u64 e.a.hi, .int .u64 e.a.lo, .int .i64 e.n] 30).alloc (.cells #[.bool false, .int .u64 0, .int .u64 0, .int .i64 0, .int .i64 0, .int .i64 0, .int .i64 0] 32))
  have OZ := Lib.hid (Blk.two w (.cells #[.bool e.a.v6, .int .u64 e.a.hi, .int .u64 e.a.lo, .int .i64 e.n] 30) #[.bool false, .int .u64 0, .int .u64 0, .int .i64 0, .int .i64 0, .int .i64 0, .int .i64 0] 32)
  obtain ⟨W1, hW1⟩ : ∃ W1, W1 = ((w.alloc (.cells #[.bool e.a.v6, .int .u64 e.a.hi, .int .u64 e.a.lo, .int .i64 e.n] 30)).alloc (.cells #[.bool false, .int .u64 0, .int .u64 0, .int .i64 0, .int .i64 0, .int .i64 0, .int .i64 0] 32)) := ⟨_, rfl⟩
  rw [← hW1] at L0 OA OZ
  go_enter Try.func7, Try.ntmps7
  go_wp2_with fail
  rw [← hW1]
  clear hW1
  have hne : Nonempty (Cls (Lows W1)) := ⟨⟨_, Lows.self _⟩⟩
  have f0 : ∀ nq : Cls (Lows W1), nq.w.cell? ⟨w.heap.size, 0, none⟩ = some (.bool e.a.v6) := fun nq => Blk.in OA nq.h rfl
  have f1 : ∀ nq : Cls (Lows W1), nq.w.cell? ⟨w.heap.size, 1, none⟩ = some (.int .u64 e.a.hi) := fun nq => Blk.in OA nq.h rfl
  have f2 : ∀ nq : Cls (Lows W1), nq.w.cell? ⟨w.heap.size, 2, none⟩ = some (.int .u64 e.a.lo) := fun nq => Blk.in OA nq.h rfl
  have f3 : ∀ nq : Cls (Lows W1), nq.w.cell? ⟨w.heap.size, 3, none⟩ = some (.int .i64 e.n) := fun nq => Blk.in OA nq.h rfl
  refine Cls.tail (Lows W1) 4 (by kernel_rfl) (by kernel_rfl) (low_drewN (Below.refl _ _) 1) ?_
  simp only [List.take_succ_cons, List.take_zero, List.drop_succ_cons, List.drop_zero]
  (try dsimp only [List.append])
  repeat (go_big_quiet_step (first | fail | (with_reducible exact Cls.call ((lows_same C1).out _ (Cls.h _)))))
  refine wpQuiet_nil ?_
  intro n9
  have hk9 := n9.h
  generalize n9.w = w9 at hk9 ⊢
  clear hne n9 f0 f1 f2 f3
  have L1 := Lib.hid (low_trans L0.out hk9)
  have own := OZ.out.on hk9
  have t0 := own.cell (j := 0) rfl
  have g0 := own.free 0
  have t1 := own.cell (j := 1) rfl
  have g1 := own.free 1
  have t2 := own.cell (j := 2) rfl
  have g2 := own.free 2
  have t3 := own.cell (j := 3) rfl
  have g3 := own.free 3
  have t4 := own.cell (j := 4) rfl
  have g4 := own.free 4
  have t5 := own.cell (j := 5) rfl
  have g5 := own.free 5
  have t6 := own.cell (j := 6) rfl
  have g6 := own.free 6
  clear hk9 OZ OA own
  go_wp2_with fail
  exact bodyPost_ret (v := .agg #[.bool e.a.v6, .int .u64 e.a.hi, .int .u64 e.a.lo, .int .i64 e.n, .int .i64 1, .int .i64 0, .int .i64 m]) (by simp [results, Try.results7, go_sem, t0, t1, t2, t3, t4, t5, t6]) rfl ⟨rfl, by repeat (first | (with_reducible exact L1.out) | (with_reducible exact Lows.alloc (Lows.alloc (Lows.self _) _) _) | (with_reducible refine Below.setCell ?_ (by first | exact Nat.le_refl _ | exact Nat.le_succ _ | (simp; done) | (simp; omega)) _) | (refine low_drewN ?_ 1))⟩
set_option maxHeartbeats 4000000 in
theorem rnewY_any (e : Endp) (n : Int) (w : World) : Calls Try.prog 8 #[.agg #[.bool e.a.v6, .int .u64 e.a.hi, .int .u64 e.a.lo, .int .i64 e.n], .int .i64 n] w fun r w' => r = .returned (.agg #[.bool (newY e n).e.a.v6, .int .u64 (newY e n).e.a.hi, .int .u64 (newY e n).e.a.lo, .int .i64 (newY e n).e.n, .int .i64 (newY e n).st, .int .i64 (newY e n).f, .int .i64 (newY e n).nx]) ∧ Below w.heap.size w w' := by
  show Calls Try.prog 8 #[.agg #[.bool e.a.v6, .int .u64 e.a.hi, .int .u64 e.a.lo, .int .i64 e.n], .int .i64 n] w fun r w' => r = .returned (.agg #[.bool e.a.v6, .int .u64 e.a.hi, .int .u64 e.a.lo, .int .i64 e.n, .int .i64 1, .int .i64 0, .int .i64 (fit n)]) ∧ Below w.heap.size w w'
  have C1 := Lib.hid (fun W => rfit_any n W)
  generalize fit n = m at *
  have L0 : Hid (Lows w ((w.alloc (.cells #[.bool e.a.v6, .int .u64 e.a.hi, .int .u64 e.a.lo, .int .i64 e.n] 30)).alloc (.cells #[.bool false, .int .u64 0, .int .u64 0, .int .i64 0, .int .i64 0, .int .i64 0, .int .i64 0] 32))) := Lib.hid (Lows.alloc (Lows.alloc (Lows.self w) _) _)
  have OA := Lib.hid ((Blk.new w #[.bool e.a.v6, .int .u64 e.a.hi, .int .u64 e.a.lo, .int .i64 e.n] 30).alloc (.cells #[.bool false, .int .u64 0, .int .u64 0, .int .i64 0, .int .i64 0, .int .i64 0, .int .i64 0] 32))
  have OZ := Lib.hid (Blk.two w (.cells #[.bool e.a.v6, .int .u64 e.a.hi, .int .u64 e.a.lo, .int .i64 e.n] 30) #[.bool false, .int .u64 0, .int .u64 0, .int .i64 0, .int .i64 0, .int .i64 0, .int .i64 0] 32)
  obtain ⟨W1, hW1⟩ : ∃ W1, W1 = ((w.alloc (.cells #[.bool e.a.v6, .int .u64 e.a.hi, .int .u64 e.a.lo, .int .i64 e.n] 30)).alloc (.cells #[.bool false, .int .u64 0, .int .u64 0, .int .i64 0, .int .i64 0, .int .i64 0, .int .i64 0] 32)) := ⟨_, rfl⟩
  rw [← hW1] at L0 OA OZ
  go_enter Try.func8, Try.ntmps8
  go_wp2_with fail
  rw [← hW1]
  clear hW1
  have hne : Nonempty (Cls (Lows W1)) := ⟨⟨_, Lows.self _⟩⟩
  have f0 : ∀ nq : Cls (Lows W1), nq.w.cell? ⟨w.heap.size, 0, none⟩ = some (.bool e.a.v6) := fun nq => Blk.in OA nq.h rfl
  have f1 : ∀ nq : Cls (Lows W1), nq.w.cell? ⟨w.heap.size, 1, none⟩ = some (.int .u64 e.a.hi) := fun nq => Blk.in OA nq.h rfl
  have f2 : ∀ nq : Cls (Lows W1), nq.w.cell? ⟨w.heap.size, 2, none⟩ = some (.int .u64 e.a.lo) := fun nq => Blk.in OA nq.h rfl
  have f3 : ∀ nq : Cls (Lows W1), nq.w.cell? ⟨w.heap.size, 3, none⟩ = some (.int .i64 e.n) := fun nq => Blk.in OA nq.h rfl
  refine Cls.tail (Lows W1) 4 (by kernel_rfl) (by kernel_rfl) (low_drewN (Below.refl _ _) 1) ?_
  simp only [List.take_succ_cons, List.take_zero, List.drop_succ_cons, List.drop_zero]
  (try dsimp only [List.append])
  repeat (go_big_quiet_step (first | fail | (with_reducible exact Cls.call ((lows_same C1).out _ (Cls.h _)))))
  refine wpQuiet_nil ?_
  intro n9
  have hk9 := n9.h
  generalize n9.w = w9 at hk9 ⊢
  clear hne n9 f0 f1 f2 f3
  have L1 := Lib.hid (low_trans L0.out hk9)
  have own := OZ.out.on hk9
  have t0 := own.cell (j := 0) rfl
  have g0 := own.free 0
  have t1 := own.cell (j := 1) rfl
  have g1 := own.free 1
  have t2 := own.cell (j := 2) rfl
  have g2 := own.free 2
  have t3 := own.cell (j := 3) rfl
  have g3 := own.free 3
  have t4 := own.cell (j := 4) rfl
  have g4 := own.free 4
  have t5 := own.cell (j := 5) rfl
  have g5 := own.free 5
  have t6 := own.cell (j := 6) rfl
  have g6 := own.free 6
  clear hk9 OZ OA own
  go_wp2_with fail
  exact bodyPost_ret (v := .agg #[.bool e.a.v6, .int .u64 e.a.hi, .int .u64 e.a.lo, .int .i64 e.n, .int .i64 1, .int .i64 0, .int .i64 m]) (by simp [results, Try.results8, go_sem, t0, t1, t2, t3, t4, t5, t6]) rfl ⟨rfl, by repeat (first | (with_reducible exact L1.out) | (with_reducible exact Lows.alloc (Lows.alloc (Lows.self _) _) _) | (with_reducible refine Below.setCell ?_ (by first | exact Nat.le_refl _ | exact Nat.le_succ _ | (simp; done) | (simp; omega)) _) | (refine low_drewN ?_ 1))⟩
set_option maxHeartbeats 16000000 in
theorem fail_any (c : Cf) (hc : c.ok) (y : Ey) (hy : y.ok) (n j : Int) (hj : -9223372036854775808 ≤ j ∧ j ≤ 9223372036854775807) (w : World) :
    Calls Try.prog 13 #[.agg #[.int .i64 c.mi, .int .i64 c.mo, .int .i64 c.sh, .int .i64 c.mb, .int .i64 c.bo, .int .u64 (c.s : Nat), .int .i64 c.qg, .int .i64 c.qp, .int .i64 c.qw, .int .i64 c.qt, .int .i64 c.half, .int .i64 c.lim, .int .i64 c.bf, .int .i64 c.base, .int .i64 c.cap, .int .i64 c.jit], .agg #[.bool y.e.a.v6, .int .u64 y.e.a.hi, .int .u64 y.e.a.lo, .int .i64 y.e.n, .int .i64 y.st, .int .i64 y.f, .int .i64 y.nx], .int .i64 n, .int .i64 j] w fun e w' => e = .returned (.agg #[.bool (failY c y n j).e.a.v6, .int .u64 (failY c y n j).e.a.hi, .int .u64 (failY c y n j).e.a.lo, .int .i64 (failY c y n j).e.n, .int .i64 (failY c y n j).st, .int .i64 (failY c y n j).f, .int .i64 (failY c y n j).nx]) ∧ Below w.heap.size w w' := by
  show Calls Try.prog 13 #[.agg #[.int .i64 c.mi, .int .i64 c.mo, .int .i64 c.sh, .int .i64 c.mb, .int .i64 c.bo, .int .u64 (c.s : Nat), .int .i64 c.qg, .int .i64 c.qp, .int .i64 c.qw, .int .i64 c.qt, .int .i64 c.half, .int .i64 c.lim, .int .i64 c.bf, .int .i64 c.base, .int .i64 c.cap, .int .i64 c.jit], .agg #[.bool y.e.a.v6, .int .u64 y.e.a.hi, .int .u64 y.e.a.lo, .int .i64 y.e.n, .int .i64 y.st, .int .i64 y.f, .int .i64 y.nx], .int .i64 n, .int .i64 j] w fun e w' => e = .returned (.agg #[.bool y.e.a.v6, .int .u64 y.e.a.hi, .int .u64 y.e.a.lo, .int .i64 y.e.n, .int .i64 1, .int .i64 (moreF y.f), .int .i64 (nextR c (moreF y.f) n j)]) ∧ Below w.heap.size w w'
  obtain ⟨m0, M0⟩ : ∃ m0 : Int, max y.f 0 = m0 := ⟨_, rfl⟩
  obtain ⟨m, M1⟩ : ∃ m : Int, min m0 999 = m := ⟨_, rfl⟩
  have hm : 0 ≤ m ∧ m ≤ 999 := by omega
  have E : moreF y.f = m + 1 := by unfold moreF; rw [M0, M1]
  rw [E]
  have C1 := Lib.hid (fun W => next_any c hc (m + 1) n j (by omega) hj W)
  generalize nextR c (m + 1) n j = k at *
  clear hc hy hj E
  have hm0 := hm.1
  have hm1 := hm.2
  clear hm
  have L0 : Hid (Lows w (((w.alloc (.cells #[.int .i64 c.mi, .int .i64 c.mo, .int .i64 c.sh, .int .i64 c.mb, .int .i64 c.bo, .int .u64 (c.s : Nat), .int .i64 c.qg, .int .i64 c.qp, .int .i64 c.qw, .int .i64 c.qt, .int .i64 c.half, .int .i64 c.lim, .int .i64 c.bf, .int .i64 c.base, .int .i64 c.cap, .int .i64 c.jit] 26)).alloc (.cells #[.bool y.e.a.v6, .int .u64 y.e.a.hi, .int .u64 y.e.a.lo, .int .i64 y.e.n, .int .i64 1, .int .i64 (m + 1), .int .i64 y.nx] 32)).alloc (.cells #[.bool false, .int .u64 0, .int .u64 0, .int .i64 0, .int .i64 0, .int .i64 0, .int .i64 0] 32))) := Lib.hid (Lows.alloc (Lows.alloc (Lows.alloc (Lows.self w) _) _) _)
  have OY : Hid (Blk (((w.alloc (.cells #[.int .i64 c.mi, .int .i64 c.mo, .int .i64 c.sh, .int .i64 c.mb, .int .i64 c.bo, .int .u64 (c.s : Nat), .int .i64 c.qg, .int .i64 c.qp, .int .i64 c.qw, .int .i64 c.qt, .int .i64 c.half, .int .i64 c.lim, .int .i64 c.bf, .int .i64 c.base, .int .i64 c.cap, .int .i64 c.jit] 26)).alloc (.cells #[.bool y.e.a.v6, .int .u64 y.e.a.hi, .int .u64 y.e.a.lo, .int .i64 y.e.n, .int .i64 1, .int .i64 (m + 1), .int .i64 y.nx] 32)).alloc (.cells #[.bool false, .int .u64 0, .int .u64 0, .int .i64 0, .int .i64 0, .int .i64 0, .int .i64 0] 32)) (w.heap.size + 1) 32 [.bool y.e.a.v6, .int .u64 y.e.a.hi, .int .u64 y.e.a.lo, .int .i64 y.e.n, .int .i64 1, .int .i64 (m + 1), .int .i64 y.nx]) := Lib.hid ((Blk.two w (.cells #[.int .i64 c.mi, .int .i64 c.mo, .int .i64 c.sh, .int .i64 c.mb, .int .i64 c.bo, .int .u64 (c.s : Nat), .int .i64 c.qg, .int .i64 c.qp, .int .i64 c.qw, .int .i64 c.qt, .int .i64 c.half, .int .i64 c.lim, .int .i64 c.bf, .int .i64 c.base, .int .i64 c.cap, .int .i64 c.jit] 26) #[.bool y.e.a.v6, .int .u64 y.e.a.hi, .int .u64 y.e.a.lo, .int .i64 y.e.n, .int .i64 1, .int .i64 (m + 1), .int .i64 y.nx] 32).alloc (.cells #[.bool false, .int .u64 0, .int .u64 0, .int .i64 0, .int .i64 0, .int .i64 0, .int .i64 0] 32))
  have OZ : Hid (Blk (((w.alloc (.cells #[.int .i64 c.mi, .int .i64 c.mo, .int .i64 c.sh, .int .i64 c.mb, .int .i64 c.bo, .int .u64 (c.s : Nat), .int .i64 c.qg, .int .i64 c.qp, .int .i64 c.qw, .int .i64 c.qt, .int .i64 c.half, .int .i64 c.lim, .int .i64 c.bf, .int .i64 c.base, .int .i64 c.cap, .int .i64 c.jit] 26)).alloc (.cells #[.bool y.e.a.v6, .int .u64 y.e.a.hi, .int .u64 y.e.a.lo, .int .i64 y.e.n, .int .i64 1, .int .i64 (m + 1), .int .i64 y.nx] 32)).alloc (.cells #[.bool false, .int .u64 0, .int .u64 0, .int .i64 0, .int .i64 0, .int .i64 0, .int .i64 0] 32)) (w.heap.size + 2) 32 [.bool false, .int .u64 0, .int .u64 0, .int .i64 0, .int .i64 0, .int .i64 0, .int .i64 0]) := Lib.hid (Blk.three w (.cells #[.int .i64 c.mi, .int .i64 c.mo, .int .i64 c.sh, .int .i64 c.mb, .int .i64 c.bo, .int .u64 (c.s : Nat), .int .i64 c.qg, .int .i64 c.qp, .int .i64 c.qw, .int .i64 c.qt, .int .i64 c.half, .int .i64 c.lim, .int .i64 c.bf, .int .i64 c.base, .int .i64 c.cap, .int .i64 c.jit] 26) (.cells #[.bool y.e.a.v6, .int .u64 y.e.a.hi, .int .u64 y.e.a.lo, .int .i64 y.e.n, .int .i64 1, .int .i64 (m + 1), .int .i64 y.nx] 32) #[.bool false, .int .u64 0, .int .u64 0, .int .i64 0, .int .i64 0, .int .i64 0, .int .i64 0] 32)
  go_enter Try.func13, Try.ntmps13
  go_wp2_with fail
  refine (C1.out _).mono ?_
  rintro e w1 ⟨rfl, hb1⟩
  have L1 : Hid (Lows w w1) := Lib.hid (low_trans L0.out hb1)
  have own1 := OY.out.on hb1
  have own2 := OZ.out.on hb1
  have s0 := own1.cell (j := 0) rfl
  have f0 := own1.free 0
  have t0 := own2.cell (j := 0) rfl
  have g0 := own2.free 0
  have s1 := own1.cell (j := 1) rfl
  have f1 := own1.free 1
  have t1 := own2.cell (j := 1) rfl
  have g1 := own2.free 1
  have s2 := own1.cell (j := 2) rfl
  have f2 := own1.free 2
  have t2 := own2.cell (j := 2) rfl
  have g2 := own2.free 2
  have s3 := own1.cell (j := 3) rfl
  have f3 := own1.free 3
  have t3 := own2.cell (j := 3) rfl
  have g3 := own2.free 3
  have s4 := own1.cell (j := 4) rfl
  have f4 := own1.free 4
  have t4 := own2.cell (j := 4) rfl
  have g4 := own2.free 4
  have s5 := own1.cell (j := 5) rfl
  have f5 := own1.free 5
  have t5 := own2.cell (j := 5) rfl
  have g5 := own2.free 5
  have s6 := own1.cell (j := 6) rfl
  have f6 := own1.free 6
  have t6 := own2.cell (j := 6) rfl
  have g6 := own2.free 6
  clear hb1 C1 OY OZ own1 own2 L0 M0 M1
  go_wp2_with fail
  exact bodyPost_ret (v := .agg #[.bool y.e.a.v6, .int .u64 y.e.a.hi, .int .u64 y.e.a.lo, .int .i64 y.e.n, .int .i64 1, .int .i64 (m + 1), .int .i64 k]) (by simp [results, Try.results13, go_sem, t0, t1, t2, t3, t4, t5, t6]) rfl ⟨rfl, by repeat (first | (with_reducible exact L1.out) | (with_reducible exact Lows.alloc (Lows.alloc (Lows.self _) _) _) | (with_reducible refine Below.setCell ?_ (by first | exact Nat.le_refl _ | exact Nat.le_succ _ | (simp; done) | (simp; omega)) _) | (refine low_drewN ?_ 1))⟩
set_option maxHeartbeats 16000000 in
theorem rfail_any (c : Cf) (hc : c.ok) (y : Ey) (hy : y.ok) (n j : Int) (hj : -9223372036854775808 ≤ j ∧ j ≤ 9223372036854775807) (w : World) :
    Calls Try.prog 14 #[.agg #[.int .i64 c.mi, .int .i64 c.mo, .int .i64 c.sh, .int .i64 c.mb, .int .i64 c.bo, .int .u64 (c.s : Nat), .int .i64 c.qg, .int .i64 c.qp, .int .i64 c.qw, .int .i64 c.qt, .int .i64 c.half, .int .i64 c.lim, .int .i64 c.bf, .int .i64 c.base, .int .i64 c.cap, .int .i64 c.jit], .agg #[.bool y.e.a.v6, .int .u64 y.e.a.hi, .int .u64 y.e.a.lo, .int .i64 y.e.n, .int .i64 y.st, .int .i64 y.f, .int .i64 y.nx], .int .i64 n, .int .i64 j] w fun e w' => e = .returned (.agg #[.bool (failY c y n j).e.a.v6, .int .u64 (failY c y n j).e.a.hi, .int .u64 (failY c y n j).e.a.lo, .int .i64 (failY c y n j).e.n, .int .i64 (failY c y n j).st, .int .i64 (failY c y n j).f, .int .i64 (failY c y n j).nx]) ∧ Below w.heap.size w w' := by
  show Calls Try.prog 14 #[.agg #[.int .i64 c.mi, .int .i64 c.mo, .int .i64 c.sh, .int .i64 c.mb, .int .i64 c.bo, .int .u64 (c.s : Nat), .int .i64 c.qg, .int .i64 c.qp, .int .i64 c.qw, .int .i64 c.qt, .int .i64 c.half, .int .i64 c.lim, .int .i64 c.bf, .int .i64 c.base, .int .i64 c.cap, .int .i64 c.jit], .agg #[.bool y.e.a.v6, .int .u64 y.e.a.hi, .int .u64 y.e.a.lo, .int .i64 y.e.n, .int .i64 y.st, .int .i64 y.f, .int .i64 y.nx], .int .i64 n, .int .i64 j] w fun e w' => e = .returned (.agg #[.bool y.e.a.v6, .int .u64 y.e.a.hi, .int .u64 y.e.a.lo, .int .i64 y.e.n, .int .i64 1, .int .i64 (moreF y.f), .int .i64 (nextR c (moreF y.f) n j)]) ∧ Below w.heap.size w w'
  have hf := hy.hf
  unfold i64B at hf
  have hmm := more_bd y.f
  have C1 := Lib.hid (fun W => rnext_any c hc (moreF y.f) n j (by omega) hj W)
  generalize nextR c (moreF y.f) n j = k at *
  have L0 : Hid (Lows w (((w.alloc (.cells #[.int .i64 c.mi, .int .i64 c.mo, .int .i64 c.sh, .int .i64 c.mb, .int .i64 c.bo, .int .u64 (c.s : Nat), .int .i64 c.qg, .int .i64 c.qp, .int .i64 c.qw, .int .i64 c.qt, .int .i64 c.half, .int .i64 c.lim, .int .i64 c.bf, .int .i64 c.base, .int .i64 c.cap, .int .i64 c.jit] 26)).alloc (.cells #[.bool y.e.a.v6, .int .u64 y.e.a.hi, .int .u64 y.e.a.lo, .int .i64 y.e.n, .int .i64 y.st, .int .i64 y.f, .int .i64 y.nx] 32)).alloc (.cells #[.bool false, .int .u64 0, .int .u64 0, .int .i64 0, .int .i64 0, .int .i64 0, .int .i64 0] 32))) := Lib.hid (Lows.alloc (Lows.alloc (Lows.alloc (Lows.self w) _) _) _)
  have OC : Hid (Blk (((w.alloc (.cells #[.int .i64 c.mi, .int .i64 c.mo, .int .i64 c.sh, .int .i64 c.mb, .int .i64 c.bo, .int .u64 (c.s : Nat), .int .i64 c.qg, .int .i64 c.qp, .int .i64 c.qw, .int .i64 c.qt, .int .i64 c.half, .int .i64 c.lim, .int .i64 c.bf, .int .i64 c.base, .int .i64 c.cap, .int .i64 c.jit] 26)).alloc (.cells #[.bool y.e.a.v6, .int .u64 y.e.a.hi, .int .u64 y.e.a.lo, .int .i64 y.e.n, .int .i64 y.st, .int .i64 y.f, .int .i64 y.nx] 32)).alloc (.cells #[.bool false, .int .u64 0, .int .u64 0, .int .i64 0, .int .i64 0, .int .i64 0, .int .i64 0] 32)) w.heap.size 26 [.int .i64 c.mi, .int .i64 c.mo, .int .i64 c.sh, .int .i64 c.mb, .int .i64 c.bo, .int .u64 (c.s : Nat), .int .i64 c.qg, .int .i64 c.qp, .int .i64 c.qw, .int .i64 c.qt, .int .i64 c.half, .int .i64 c.lim, .int .i64 c.bf, .int .i64 c.base, .int .i64 c.cap, .int .i64 c.jit]) := Lib.hid (((Blk.new w #[.int .i64 c.mi, .int .i64 c.mo, .int .i64 c.sh, .int .i64 c.mb, .int .i64 c.bo, .int .u64 (c.s : Nat), .int .i64 c.qg, .int .i64 c.qp, .int .i64 c.qw, .int .i64 c.qt, .int .i64 c.half, .int .i64 c.lim, .int .i64 c.bf, .int .i64 c.base, .int .i64 c.cap, .int .i64 c.jit] 26).alloc (.cells #[.bool y.e.a.v6, .int .u64 y.e.a.hi, .int .u64 y.e.a.lo, .int .i64 y.e.n, .int .i64 y.st, .int .i64 y.f, .int .i64 y.nx] 32)).alloc (.cells #[.bool false, .int .u64 0, .int .u64 0, .int .i64 0, .int .i64 0, .int .i64 0, .int .i64 0] 32))
  have OY : Hid (Blk (((w.alloc (.cells #[.int .i64 c.mi, .int .i64 c.mo, .int .i64 c.sh, .int .i64 c.mb, .int .i64 c.bo, .int .u64 (c.s : Nat), .int .i64 c.qg, .int .i64 c.qp, .int .i64 c.qw, .int .i64 c.qt, .int .i64 c.half, .int .i64 c.lim, .int .i64 c.bf, .int .i64 c.base, .int .i64 c.cap, .int .i64 c.jit] 26)).alloc (.cells #[.bool y.e.a.v6, .int .u64 y.e.a.hi, .int .u64 y.e.a.lo, .int .i64 y.e.n, .int .i64 y.st, .int .i64 y.f, .int .i64 y.nx] 32)).alloc (.cells #[.bool false, .int .u64 0, .int .u64 0, .int .i64 0, .int .i64 0, .int .i64 0, .int .i64 0] 32)) (w.heap.size + 1) 32 [.bool y.e.a.v6, .int .u64 y.e.a.hi, .int .u64 y.e.a.lo, .int .i64 y.e.n, .int .i64 y.st, .int .i64 y.f, .int .i64 y.nx]) := Lib.hid ((Blk.two w (.cells #[.int .i64 c.mi, .int .i64 c.mo, .int .i64 c.sh, .int .i64 c.mb, .int .i64 c.bo, .int .u64 (c.s : Nat), .int .i64 c.qg, .int .i64 c.qp, .int .i64 c.qw, .int .i64 c.qt, .int .i64 c.half, .int .i64 c.lim, .int .i64 c.bf, .int .i64 c.base, .int .i64 c.cap, .int .i64 c.jit] 26) #[.bool y.e.a.v6, .int .u64 y.e.a.hi, .int .u64 y.e.a.lo, .int .i64 y.e.n, .int .i64 y.st, .int .i64 y.f, .int .i64 y.nx] 32).alloc (.cells #[.bool false, .int .u64 0, .int .u64 0, .int .i64 0, .int .i64 0, .int .i64 0, .int .i64 0] 32))
  have OZ : Hid (Blk (((w.alloc (.cells #[.int .i64 c.mi, .int .i64 c.mo, .int .i64 c.sh, .int .i64 c.mb, .int .i64 c.bo, .int .u64 (c.s : Nat), .int .i64 c.qg, .int .i64 c.qp, .int .i64 c.qw, .int .i64 c.qt, .int .i64 c.half, .int .i64 c.lim, .int .i64 c.bf, .int .i64 c.base, .int .i64 c.cap, .int .i64 c.jit] 26)).alloc (.cells #[.bool y.e.a.v6, .int .u64 y.e.a.hi, .int .u64 y.e.a.lo, .int .i64 y.e.n, .int .i64 y.st, .int .i64 y.f, .int .i64 y.nx] 32)).alloc (.cells #[.bool false, .int .u64 0, .int .u64 0, .int .i64 0, .int .i64 0, .int .i64 0, .int .i64 0] 32)) (w.heap.size + 2) 32 [.bool false, .int .u64 0, .int .u64 0, .int .i64 0, .int .i64 0, .int .i64 0, .int .i64 0]) := Lib.hid (Blk.three w (.cells #[.int .i64 c.mi, .int .i64 c.mo, .int .i64 c.sh, .int .i64 c.mb, .int .i64 c.bo, .int .u64 (c.s : Nat), .int .i64 c.qg, .int .i64 c.qp, .int .i64 c.qw, .int .i64 c.qt, .int .i64 c.half, .int .i64 c.lim, .int .i64 c.bf, .int .i64 c.base, .int .i64 c.cap, .int .i64 c.jit] 26) (.cells #[.bool y.e.a.v6, .int .u64 y.e.a.hi, .int .u64 y.e.a.lo, .int .i64 y.e.n, .int .i64 y.st, .int .i64 y.f, .int .i64 y.nx] 32) #[.bool false, .int .u64 0, .int .u64 0, .int .i64 0, .int .i64 0, .int .i64 0, .int .i64 0] 32)
  obtain ⟨W1, hW1⟩ : ∃ W1, W1 = (((w.alloc (.cells #[.int .i64 c.mi, .int .i64 c.mo, .int .i64 c.sh, .int .i64 c.mb, .int .i64 c.bo, .int .u64 (c.s : Nat), .int .i64 c.qg, .int .i64 c.qp, .int .i64 c.qw, .int .i64 c.qt, .int .i64 c.half, .int .i64 c.lim, .int .i64 c.bf, .int .i64 c.base, .int .i64 c.cap, .int .i64 c.jit] 26)).alloc (.cells #[.bool y.e.a.v6, .int .u64 y.e.a.hi, .int .u64 y.e.a.lo, .int .i64 y.e.n, .int .i64 y.st, .int .i64 y.f, .int .i64 y.nx] 32)).alloc (.cells #[.bool false, .int .u64 0, .int .u64 0, .int .i64 0, .int .i64 0, .int .i64 0, .int .i64 0] 32)) := ⟨_, rfl⟩
  rw [← hW1] at L0 OC OY OZ
  by_cases h1 : 0 < y.f
  · by_cases h2 : y.f < 1000
    · have h3 : ¬ 1000 ≤ y.f := by omega
      have E : moreF y.f = y.f + 1 := by unfold moreF; omega
      rw [E] at C1 ⊢
      clear hc hy hj E hmm
      go_enter Try.func14, Try.ntmps14
      go_wp2_with fail
      rw [← hW1]
      clear hW1
      have hne : Nonempty (Cls (Lows W1)) := ⟨⟨_, Lows.self _⟩⟩
      have f0 : ∀ nq : Cls (Lows W1), nq.w.cell? ⟨w.heap.size, 0, none⟩ = some (.int .i64 c.mi) := fun nq => Blk.in OC nq.h rfl
      have f1 : ∀ nq : Cls (Lows W1), nq.w.cell? ⟨w.heap.size, 1, none⟩ = some (.int .i64 c.mo) := fun nq => Blk.in OC nq.h rfl
      have f2 : ∀ nq : Cls (Lows W1), nq.w.cell? ⟨w.heap.size, 2, none⟩ = some (.int .i64 c.sh) := fun nq => Blk.in OC nq.h rfl
      have f3 : ∀ nq : Cls (Lows W1), nq.w.cell? ⟨w.heap.size, 3, none⟩ = some (.int .i64 c.mb) := fun nq => Blk.in OC nq.h rfl
      have f4 : ∀ nq : Cls (Lows W1), nq.w.cell? ⟨w.heap.size, 4, none⟩ = some (.int .i64 c.bo) := fun nq => Blk.in OC nq.h rfl
      have f5 : ∀ nq : Cls (Lows W1), nq.w.cell? ⟨w.heap.size, 5, none⟩ = some (.int .u64 (c.s : Nat)) := fun nq => Blk.in OC nq.h rfl
      have f6 : ∀ nq : Cls (Lows W1), nq.w.cell? ⟨w.heap.size, 6, none⟩ = some (.int .i64 c.qg) := fun nq => Blk.in OC nq.h rfl
      have f7 : ∀ nq : Cls (Lows W1), nq.w.cell? ⟨w.heap.size, 7, none⟩ = some (.int .i64 c.qp) := fun nq => Blk.in OC nq.h rfl
      have f8 : ∀ nq : Cls (Lows W1), nq.w.cell? ⟨w.heap.size, 8, none⟩ = some (.int .i64 c.qw) := fun nq => Blk.in OC nq.h rfl
      have f9 : ∀ nq : Cls (Lows W1), nq.w.cell? ⟨w.heap.size, 9, none⟩ = some (.int .i64 c.qt) := fun nq => Blk.in OC nq.h rfl
      have f10 : ∀ nq : Cls (Lows W1), nq.w.cell? ⟨w.heap.size, 10, none⟩ = some (.int .i64 c.half) := fun nq => Blk.in OC nq.h rfl
      have f11 : ∀ nq : Cls (Lows W1), nq.w.cell? ⟨w.heap.size, 11, none⟩ = some (.int .i64 c.lim) := fun nq => Blk.in OC nq.h rfl
      have f12 : ∀ nq : Cls (Lows W1), nq.w.cell? ⟨w.heap.size, 12, none⟩ = some (.int .i64 c.bf) := fun nq => Blk.in OC nq.h rfl
      have f13 : ∀ nq : Cls (Lows W1), nq.w.cell? ⟨w.heap.size, 13, none⟩ = some (.int .i64 c.base) := fun nq => Blk.in OC nq.h rfl
      have f14 : ∀ nq : Cls (Lows W1), nq.w.cell? ⟨w.heap.size, 14, none⟩ = some (.int .i64 c.cap) := fun nq => Blk.in OC nq.h rfl
      have f15 : ∀ nq : Cls (Lows W1), nq.w.cell? ⟨w.heap.size, 15, none⟩ = some (.int .i64 c.jit) := fun nq => Blk.in OC nq.h rfl
      have f16 : ∀ nq : Cls (Lows W1), nq.w.cell? ⟨(w.heap.size + 1), 0, none⟩ = some (.bool y.e.a.v6) := fun nq => Blk.in OY nq.h rfl
      have f17 : ∀ nq : Cls (Lows W1), nq.w.cell? ⟨(w.heap.size + 1), 1, none⟩ = some (.int .u64 y.e.a.hi) := fun nq => Blk.in OY nq.h rfl
      have f18 : ∀ nq : Cls (Lows W1), nq.w.cell? ⟨(w.heap.size + 1), 2, none⟩ = some (.int .u64 y.e.a.lo) := fun nq => Blk.in OY nq.h rfl
      have f19 : ∀ nq : Cls (Lows W1), nq.w.cell? ⟨(w.heap.size + 1), 3, none⟩ = some (.int .i64 y.e.n) := fun nq => Blk.in OY nq.h rfl
      have f20 : ∀ nq : Cls (Lows W1), nq.w.cell? ⟨(w.heap.size + 1), 4, none⟩ = some (.int .i64 y.st) := fun nq => Blk.in OY nq.h rfl
      have f21 : ∀ nq : Cls (Lows W1), nq.w.cell? ⟨(w.heap.size + 1), 5, none⟩ = some (.int .i64 y.f) := fun nq => Blk.in OY nq.h rfl
      have f22 : ∀ nq : Cls (Lows W1), nq.w.cell? ⟨(w.heap.size + 1), 6, none⟩ = some (.int .i64 y.nx) := fun nq => Blk.in OY nq.h rfl
      refine Cls.tail (Lows W1) 9 (by kernel_rfl) (by kernel_rfl) (low_drewN (Below.refl _ _) 1) ?_
      simp only [List.take_succ_cons, List.take_zero, List.drop_succ_cons, List.drop_zero]
      (try dsimp only [List.append])
      repeat (go_big_quiet_step (first | fail | (with_reducible exact Cls.call ((lows_call C1).out _ (Cls.h _)))))
      refine wpQuiet_nil ?_
      intro n9
      have hk9 := n9.h
      generalize n9.w = w9 at hk9 ⊢
      clear hne n9 f0 f1 f2 f3 f4 f5 f6 f7 f8 f9 f10 f11 f12 f13 f14 f15 f16 f17 f18 f19 f20 f21 f22
      have L1 := Lib.hid (low_trans L0.out hk9)
      have own := OZ.out.on hk9
      have t0 := own.cell (j := 0) rfl
      have g0 := own.free 0
      have t1 := own.cell (j := 1) rfl
      have g1 := own.free 1
      have t2 := own.cell (j := 2) rfl
      have g2 := own.free 2
      have t3 := own.cell (j := 3) rfl
      have g3 := own.free 3
      have t4 := own.cell (j := 4) rfl
      have g4 := own.free 4
      have t5 := own.cell (j := 5) rfl
      have g5 := own.free 5
      have t6 := own.cell (j := 6) rfl
      have g6 := own.free 6
      clear hk9 OZ OY OC own
      go_wp2_with fail
      exact bodyPost_ret (v := .agg #[.bool y.e.a.v6, .int .u64 y.e.a.hi, .int .u64 y.e.a.lo, .int .i64 y.e.n, .int .i64 1, .int .i64 (y.f + 1), .int .i64 k]) (by simp [results, Try.results14, go_sem, t0, t1, t2, t3, t4, t5, t6]) rfl ⟨rfl, by repeat (first | (with_reducible exact L1.out) | (with_reducible exact Lows.alloc (Lows.alloc (Lows.self _) _) _) | (with_reducible refine Below.setCell ?_ (by first | exact Nat.le_refl _ | exact Nat.le_succ _ | (simp; done) | (simp; omega)) _) | (refine low_drewN ?_ 1))⟩
    · have h3 : 1000 ≤ y.f := by omega
      have E : moreF y.f = 1000 := by unfold moreF; omega
      rw [E] at C1 ⊢
      clear hc hy hj E hmm
      go_enter Try.func14, Try.ntmps14
      go_wp2_with fail
      rw [← hW1]
      clear hW1
      have hne : Nonempty (Cls (Lows W1)) := ⟨⟨_, Lows.self _⟩⟩
      have f0 : ∀ nq : Cls (Lows W1), nq.w.cell? ⟨w.heap.size, 0, none⟩ = some (.int .i64 c.mi) := fun nq => Blk.in OC nq.h rfl
      have f1 : ∀ nq : Cls (Lows W1), nq.w.cell? ⟨w.heap.size, 1, none⟩ = some (.int .i64 c.mo) := fun nq => Blk.in OC nq.h rfl
      have f2 : ∀ nq : Cls (Lows W1), nq.w.cell? ⟨w.heap.size, 2, none⟩ = some (.int .i64 c.sh) := fun nq => Blk.in OC nq.h rfl
      have f3 : ∀ nq : Cls (Lows W1), nq.w.cell? ⟨w.heap.size, 3, none⟩ = some (.int .i64 c.mb) := fun nq => Blk.in OC nq.h rfl
      have f4 : ∀ nq : Cls (Lows W1), nq.w.cell? ⟨w.heap.size, 4, none⟩ = some (.int .i64 c.bo) := fun nq => Blk.in OC nq.h rfl
      have f5 : ∀ nq : Cls (Lows W1), nq.w.cell? ⟨w.heap.size, 5, none⟩ = some (.int .u64 (c.s : Nat)) := fun nq => Blk.in OC nq.h rfl
      have f6 : ∀ nq : Cls (Lows W1), nq.w.cell? ⟨w.heap.size, 6, none⟩ = some (.int .i64 c.qg) := fun nq => Blk.in OC nq.h rfl
      have f7 : ∀ nq : Cls (Lows W1), nq.w.cell? ⟨w.heap.size, 7, none⟩ = some (.int .i64 c.qp) := fun nq => Blk.in OC nq.h rfl
      have f8 : ∀ nq : Cls (Lows W1), nq.w.cell? ⟨w.heap.size, 8, none⟩ = some (.int .i64 c.qw) := fun nq => Blk.in OC nq.h rfl
      have f9 : ∀ nq : Cls (Lows W1), nq.w.cell? ⟨w.heap.size, 9, none⟩ = some (.int .i64 c.qt) := fun nq => Blk.in OC nq.h rfl
      have f10 : ∀ nq : Cls (Lows W1), nq.w.cell? ⟨w.heap.size, 10, none⟩ = some (.int .i64 c.half) := fun nq => Blk.in OC nq.h rfl
      have f11 : ∀ nq : Cls (Lows W1), nq.w.cell? ⟨w.heap.size, 11, none⟩ = some (.int .i64 c.lim) := fun nq => Blk.in OC nq.h rfl
      have f12 : ∀ nq : Cls (Lows W1), nq.w.cell? ⟨w.heap.size, 12, none⟩ = some (.int .i64 c.bf) := fun nq => Blk.in OC nq.h rfl
      have f13 : ∀ nq : Cls (Lows W1), nq.w.cell? ⟨w.heap.size, 13, none⟩ = some (.int .i64 c.base) := fun nq => Blk.in OC nq.h rfl
      have f14 : ∀ nq : Cls (Lows W1), nq.w.cell? ⟨w.heap.size, 14, none⟩ = some (.int .i64 c.cap) := fun nq => Blk.in OC nq.h rfl
      have f15 : ∀ nq : Cls (Lows W1), nq.w.cell? ⟨w.heap.size, 15, none⟩ = some (.int .i64 c.jit) := fun nq => Blk.in OC nq.h rfl
      have f16 : ∀ nq : Cls (Lows W1), nq.w.cell? ⟨(w.heap.size + 1), 0, none⟩ = some (.bool y.e.a.v6) := fun nq => Blk.in OY nq.h rfl
      have f17 : ∀ nq : Cls (Lows W1), nq.w.cell? ⟨(w.heap.size + 1), 1, none⟩ = some (.int .u64 y.e.a.hi) := fun nq => Blk.in OY nq.h rfl
      have f18 : ∀ nq : Cls (Lows W1), nq.w.cell? ⟨(w.heap.size + 1), 2, none⟩ = some (.int .u64 y.e.a.lo) := fun nq => Blk.in OY nq.h rfl
      have f19 : ∀ nq : Cls (Lows W1), nq.w.cell? ⟨(w.heap.size + 1), 3, none⟩ = some (.int .i64 y.e.n) := fun nq => Blk.in OY nq.h rfl
      have f20 : ∀ nq : Cls (Lows W1), nq.w.cell? ⟨(w.heap.size + 1), 4, none⟩ = some (.int .i64 y.st) := fun nq => Blk.in OY nq.h rfl
      have f21 : ∀ nq : Cls (Lows W1), nq.w.cell? ⟨(w.heap.size + 1), 5, none⟩ = some (.int .i64 y.f) := fun nq => Blk.in OY nq.h rfl
      have f22 : ∀ nq : Cls (Lows W1), nq.w.cell? ⟨(w.heap.size + 1), 6, none⟩ = some (.int .i64 y.nx) := fun nq => Blk.in OY nq.h rfl
      refine Cls.tail (Lows W1) 9 (by kernel_rfl) (by kernel_rfl) (low_drewN (Below.refl _ _) 1) ?_
      simp only [List.take_succ_cons, List.take_zero, List.drop_succ_cons, List.drop_zero]
      (try dsimp only [List.append])
      repeat (go_big_quiet_step (first | fail | (with_reducible exact Cls.call ((lows_call C1).out _ (Cls.h _)))))
      refine wpQuiet_nil ?_
      intro n9
      have hk9 := n9.h
      generalize n9.w = w9 at hk9 ⊢
      clear hne n9 f0 f1 f2 f3 f4 f5 f6 f7 f8 f9 f10 f11 f12 f13 f14 f15 f16 f17 f18 f19 f20 f21 f22
      have L1 := Lib.hid (low_trans L0.out hk9)
      have own := OZ.out.on hk9
      have t0 := own.cell (j := 0) rfl
      have g0 := own.free 0
      have t1 := own.cell (j := 1) rfl
      have g1 := own.free 1
      have t2 := own.cell (j := 2) rfl
      have g2 := own.free 2
      have t3 := own.cell (j := 3) rfl
      have g3 := own.free 3
      have t4 := own.cell (j := 4) rfl
      have g4 := own.free 4
      have t5 := own.cell (j := 5) rfl
      have g5 := own.free 5
      have t6 := own.cell (j := 6) rfl
      have g6 := own.free 6
      clear hk9 OZ OY OC own
      go_wp2_with fail
      exact bodyPost_ret (v := .agg #[.bool y.e.a.v6, .int .u64 y.e.a.hi, .int .u64 y.e.a.lo, .int .i64 y.e.n, .int .i64 1, .int .i64 1000, .int .i64 k]) (by simp [results, Try.results14, go_sem, t0, t1, t2, t3, t4, t5, t6]) rfl ⟨rfl, by repeat (first | (with_reducible exact L1.out) | (with_reducible exact Lows.alloc (Lows.alloc (Lows.self _) _) _) | (with_reducible refine Below.setCell ?_ (by first | exact Nat.le_refl _ | exact Nat.le_succ _ | (simp; done) | (simp; omega)) _) | (refine low_drewN ?_ 1))⟩
  · have h3 : ¬ 1000 ≤ y.f := by omega
    have E : moreF y.f = 1 := by unfold moreF; omega
    rw [E] at C1 ⊢
    clear hc hy hj E hmm
    go_enter Try.func14, Try.ntmps14
    go_wp2_with fail
    rw [← hW1]
    clear hW1
    have hne : Nonempty (Cls (Lows W1)) := ⟨⟨_, Lows.self _⟩⟩
    have f0 : ∀ nq : Cls (Lows W1), nq.w.cell? ⟨w.heap.size, 0, none⟩ = some (.int .i64 c.mi) := fun nq => Blk.in OC nq.h rfl
    have f1 : ∀ nq : Cls (Lows W1), nq.w.cell? ⟨w.heap.size, 1, none⟩ = some (.int .i64 c.mo) := fun nq => Blk.in OC nq.h rfl
    have f2 : ∀ nq : Cls (Lows W1), nq.w.cell? ⟨w.heap.size, 2, none⟩ = some (.int .i64 c.sh) := fun nq => Blk.in OC nq.h rfl
    have f3 : ∀ nq : Cls (Lows W1), nq.w.cell? ⟨w.heap.size, 3, none⟩ = some (.int .i64 c.mb) := fun nq => Blk.in OC nq.h rfl
    have f4 : ∀ nq : Cls (Lows W1), nq.w.cell? ⟨w.heap.size, 4, none⟩ = some (.int .i64 c.bo) := fun nq => Blk.in OC nq.h rfl
    have f5 : ∀ nq : Cls (Lows W1), nq.w.cell? ⟨w.heap.size, 5, none⟩ = some (.int .u64 (c.s : Nat)) := fun nq => Blk.in OC nq.h rfl
    have f6 : ∀ nq : Cls (Lows W1), nq.w.cell? ⟨w.heap.size, 6, none⟩ = some (.int .i64 c.qg) := fun nq => Blk.in OC nq.h rfl
    have f7 : ∀ nq : Cls (Lows W1), nq.w.cell? ⟨w.heap.size, 7, none⟩ = some (.int .i64 c.qp) := fun nq => Blk.in OC nq.h rfl
    have f8 : ∀ nq : Cls (Lows W1), nq.w.cell? ⟨w.heap.size, 8, none⟩ = some (.int .i64 c.qw) := fun nq => Blk.in OC nq.h rfl
    have f9 : ∀ nq : Cls (Lows W1), nq.w.cell? ⟨w.heap.size, 9, none⟩ = some (.int .i64 c.qt) := fun nq => Blk.in OC nq.h rfl
    have f10 : ∀ nq : Cls (Lows W1), nq.w.cell? ⟨w.heap.size, 10, none⟩ = some (.int .i64 c.half) := fun nq => Blk.in OC nq.h rfl
    have f11 : ∀ nq : Cls (Lows W1), nq.w.cell? ⟨w.heap.size, 11, none⟩ = some (.int .i64 c.lim) := fun nq => Blk.in OC nq.h rfl
    have f12 : ∀ nq : Cls (Lows W1), nq.w.cell? ⟨w.heap.size, 12, none⟩ = some (.int .i64 c.bf) := fun nq => Blk.in OC nq.h rfl
    have f13 : ∀ nq : Cls (Lows W1), nq.w.cell? ⟨w.heap.size, 13, none⟩ = some (.int .i64 c.base) := fun nq => Blk.in OC nq.h rfl
    have f14 : ∀ nq : Cls (Lows W1), nq.w.cell? ⟨w.heap.size, 14, none⟩ = some (.int .i64 c.cap) := fun nq => Blk.in OC nq.h rfl
    have f15 : ∀ nq : Cls (Lows W1), nq.w.cell? ⟨w.heap.size, 15, none⟩ = some (.int .i64 c.jit) := fun nq => Blk.in OC nq.h rfl
    have f16 : ∀ nq : Cls (Lows W1), nq.w.cell? ⟨(w.heap.size + 1), 0, none⟩ = some (.bool y.e.a.v6) := fun nq => Blk.in OY nq.h rfl
    have f17 : ∀ nq : Cls (Lows W1), nq.w.cell? ⟨(w.heap.size + 1), 1, none⟩ = some (.int .u64 y.e.a.hi) := fun nq => Blk.in OY nq.h rfl
    have f18 : ∀ nq : Cls (Lows W1), nq.w.cell? ⟨(w.heap.size + 1), 2, none⟩ = some (.int .u64 y.e.a.lo) := fun nq => Blk.in OY nq.h rfl
    have f19 : ∀ nq : Cls (Lows W1), nq.w.cell? ⟨(w.heap.size + 1), 3, none⟩ = some (.int .i64 y.e.n) := fun nq => Blk.in OY nq.h rfl
    have f20 : ∀ nq : Cls (Lows W1), nq.w.cell? ⟨(w.heap.size + 1), 4, none⟩ = some (.int .i64 y.st) := fun nq => Blk.in OY nq.h rfl
    have f21 : ∀ nq : Cls (Lows W1), nq.w.cell? ⟨(w.heap.size + 1), 5, none⟩ = some (.int .i64 y.f) := fun nq => Blk.in OY nq.h rfl
    have f22 : ∀ nq : Cls (Lows W1), nq.w.cell? ⟨(w.heap.size + 1), 6, none⟩ = some (.int .i64 y.nx) := fun nq => Blk.in OY nq.h rfl
    refine Cls.tail (Lows W1) 9 (by kernel_rfl) (by kernel_rfl) (low_drewN (Below.refl _ _) 1) ?_
    simp only [List.take_succ_cons, List.take_zero, List.drop_succ_cons, List.drop_zero]
    (try dsimp only [List.append])
    repeat (go_big_quiet_step (first | fail | (with_reducible exact Cls.call ((lows_call C1).out _ (Cls.h _)))))
    refine wpQuiet_nil ?_
    intro n9
    have hk9 := n9.h
    generalize n9.w = w9 at hk9 ⊢
    clear hne n9 f0 f1 f2 f3 f4 f5 f6 f7 f8 f9 f10 f11 f12 f13 f14 f15 f16 f17 f18 f19 f20 f21 f22
    have L1 := Lib.hid (low_trans L0.out hk9)
    have own := OZ.out.on hk9
    have t0 := own.cell (j := 0) rfl
    have g0 := own.free 0
    have t1 := own.cell (j := 1) rfl
    have g1 := own.free 1
    have t2 := own.cell (j := 2) rfl
    have g2 := own.free 2
    have t3 := own.cell (j := 3) rfl
    have g3 := own.free 3
    have t4 := own.cell (j := 4) rfl
    have g4 := own.free 4
    have t5 := own.cell (j := 5) rfl
    have g5 := own.free 5
    have t6 := own.cell (j := 6) rfl
    have g6 := own.free 6
    clear hk9 OZ OY OC own
    go_wp2_with fail
    exact bodyPost_ret (v := .agg #[.bool y.e.a.v6, .int .u64 y.e.a.hi, .int .u64 y.e.a.lo, .int .i64 y.e.n, .int .i64 1, .int .i64 1, .int .i64 k]) (by simp [results, Try.results14, go_sem, t0, t1, t2, t3, t4, t5, t6]) rfl ⟨rfl, by repeat (first | (with_reducible exact L1.out) | (with_reducible exact Lows.alloc (Lows.alloc (Lows.self _) _) _) | (with_reducible refine Below.setCell ?_ (by first | exact Nat.le_refl _ | exact Nat.le_succ _ | (simp; done) | (simp; omega)) _) | (refine low_drewN ?_ 1))⟩
end Go.Proofs.Ytnknhmfhejdbfaa.Et
