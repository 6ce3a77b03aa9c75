/- Package entry and the answers of its document, layer 25: the mathematics, the contracts. -/
import Derived.Test.YtnflgcpacacnlaaBackoff
import Derived.Test.YtnflgcpacacnlaaRef09All
import Derived.Test.YtnflgcpacacnlaaBox
import Derived.Test.YtnflgcpacacnlaaTail
import Derived.Lib.MinMax
namespace Go.Proofs.Ytnflgcpacacnlaa.Et
set_option maxRecDepth 100000
open Go.ChangeShapes Go.WideShapes Go.ChangeAt Go.RowKit
open Ad Ci En Sat Bk
set_option linter.unusedVariables false
/-- An entry of the book: its end, its state, how often dialling failed, from when on it may be dialled. -/
structure Ey where
  e : Endp
  st : Int
  f : Int
  nx : Int
structure Ey.ok (y : Ey) : Prop where
  he : y.e.ok
  hst : i64B y.st
  hf : i64B y.f
  hnx : i64B y.nx
def encY (y : Ey) : List Value := [.bool y.e.a.v6, .int .u64 y.e.a.hi, .int .u64 y.e.a.lo, .int .i64 y.e.n, .int .i64 y.st, .int .i64 y.f, .int .i64 y.nx]
theorem encY_len (y : Ey) : (encY y).length = 7 := rfl
def inB (n a b : Int) : Bool := decide (a ≤ n) && decide (n ≤ b)
theorem inB_iff (n a b : Int) : inB n a b = true ↔ a ≤ n ∧ n ≤ b := by unfold inB; simp
def rightY (y : Ey) : Bool := rightE y.e && inB y.st 1 3 && inB y.f 0 1000 && inB y.nx 0 1099511627776
theorem rightY_iff (y : Ey) : rightY y = true ↔ rightE y.e = true ∧ (1 ≤ y.st ∧ y.st ≤ 3) ∧ (0 ≤ y.f ∧ y.f ≤ 1000) ∧ (0 ≤ y.nx ∧ y.nx ≤ 1099511627776) := by
  unfold rightY; simp only [Bool.and_eq_true, inB_iff, and_assoc]
def newY (e : Endp) (n : Int) : Ey := ⟨e, 1, 0, fit n⟩
def dueY (y : Ey) (n : Int) : Bool := y.st == 1 && decide (y.nx ≤ n)
def stateY (y : Ey) (s : Int) : Ey := ⟨y.e, s, y.f, y.nx⟩
def goodY (y : Ey) : Ey := ⟨y.e, 3, 0, y.nx⟩
def moreF (f : Int) : Int := min (max f 0) 999 + 1
def failY (c : Cf) (y : Ey) (n j : Int) : Ey := ⟨y.e, 1, moreF y.f, nextR c (moreF y.f) n j⟩
theorem more_bd (f : Int) : 1 ≤ moreF f ∧ moreF f ≤ 1000 := by unfold moreF; omega
theorem more_right {f : Int} (h : 0 ≤ f ∧ f ≤ 1000) : moreF f = min (f + 1) 1000 := by unfold moreF; omega
theorem next_bd (c : Cf) (f n j : Int) : 0 ≤ nextR c f n j ∧ nextR c f n j ≤ 1099511627776 := add_bd _ _
theorem new_right {e : Endp} (h : rightE e = true) (n : Int) : rightY (newY e n) = true := (rightY_iff _).2 ⟨h, by show (1 : Int) ≤ 1 ∧ (1 : Int) ≤ 3; decide, by show (0 : Int) ≤ 0 ∧ (0 : Int) ≤ 1000; decide, fit_bd n⟩
theorem state_right {y : Ey} (h : rightY y = true) {s : Int} (hs : 1 ≤ s ∧ s ≤ 3) : rightY (stateY y s) = true := by
  have k := (rightY_iff _).1 h
  exact (rightY_iff _).2 ⟨k.1, hs, k.2.2.1, k.2.2.2⟩
theorem good_right {y : Ey} (h : rightY y = true) : rightY (goodY y) = true := by
  have k := (rightY_iff _).1 h
  exact (rightY_iff _).2 ⟨k.1, by show (1 : Int) ≤ 3 ∧ (3 : Int) ≤ 3; decide, by show (0 : Int) ≤ 0 ∧ (0 : Int) ≤ 1000; decide, k.2.2.2⟩
theorem fail_right {y : Ey} (h : rightY y = true) (c : Cf) (n j : Int) : rightY (failY c y n j) = true := by
  have k := (rightY_iff _).1 h
  have m := more_bd y.f
  exact (rightY_iff _).2 ⟨k.1, by show (1 : Int) ≤ 1 ∧ (1 : Int) ≤ 3; decide, ⟨by show 0 ≤ moreF y.f; omega, m.2⟩, next_bd _ _ _ _⟩
theorem right_ok {y : Ey} (he : y.e.ok) (h : rightY y = true) : y.ok := by
  have k := (rightY_iff _).1 h
  refine ⟨he, ?_, ?_, ?_⟩ <;> unfold i64B <;> omega
theorem fail_due (c : Cf) (y : Ey) (n j : Int) : dueY (failY c y n j) (nextR c (moreF y.f) n j - 1) = false ∧ dueY (failY c y n j) (nextR c (moreF y.f) n j) = true := by
  unfold dueY failY
  constructor
  · simp; omega
  · simp
theorem withinY_any (n a b : Int) (w : World) : Calls Try.prog 34 #[.int .i64 n, .int .i64 a, .int .i64 b] w fun e w' => e = .returned (.bool (inB n a b)) ∧ w = w' := by
  by_cases h : a ≤ n
  · have E : inB n a b = decide (n ≤ b) := by unfold inB; simp [h]
    rw [E]
    go_enter Try.func34, Try.ntmps34
    go_wp2
    go_ret
    exact ⟨rfl, rfl⟩
  · have E : inB n a b = false := by unfold inB; simp [h]
    rw [E]
    go_enter Try.func34, Try.ntmps34
    go_wp2
    go_ret
    exact ⟨rfl, rfl⟩
set_option maxHeartbeats 4000000 in
theorem rightY_any (y : Ey) (hy : y.ok) (w : World) : Calls Try.prog 21 #[.agg #[.bool y.e.a.v6, .int .u64 y.e.a.hi, .int .u64 y.e.a.lo, .int .i64 y.e.n, .int .i64 y.st, .int .i64 y.f, .int .i64 y.nx]] w fun e w' => e = .returned (.bool (rightY y)) ∧ Below w.heap.size w w' := by
  have L0 : Hid (Below w.heap.size w (w.alloc (.cells #[.bool y.e.a.v6, .int .u64 y.e.a.hi, .int .u64 y.e.a.lo, .int .i64 y.e.n, .int .i64 y.st, .int .i64 y.f, .int .i64 y.nx] 29))) := Lib.hid (Lows.alloc (Lows.self w) _)
  have OB := Lib.hid (Blk.new w #[.bool y.e.a.v6, .int .u64 y.e.a.hi, .int .u64 y.e.a.lo, .int .i64 y.e.n, .int .i64 y.st, .int .i64 y.f, .int .i64 y.nx] 29)
  have E : Hid (rightY y = (rightE y.e && inB y.st 1 3 && inB y.f 0 1000 && inB y.nx 0 1099511627776)) := Lib.hid rfl
  have KE := Lib.hid (fun W => rightE_any y.e W hy.he)
  have K1 := Lib.hid (fun W => withinY_any y.st 1 3 W)
  have K2 := Lib.hid (fun W => withinY_any y.f 0 1000 W)
  have K3 := Lib.hid (fun W => withinY_any y.nx 0 1099511627776 W)
  generalize rightY y = r at *
  generalize rightE y.e = be at *
  generalize inB y.st 1 3 = b1 at *
  generalize inB y.f 0 1000 = b2 at *
  generalize inB y.nx 0 1099511627776 = b3 at *
  clear hy
  go_enter Try.func21, Try.ntmps21
  go_wp2_with fail
  refine (KE.out _).mono ?_; rintro e w1 ⟨rfl, hb1⟩
  have L1 := Lib.hid (low_trans L0.out hb1)
  have own := OB.out.on hb1
  have s4 := own.cell (j := 4) rfl
  have s5 := own.cell (j := 5) rfl
  have s6 := own.cell (j := 6) rfl
  clear own hb1
  cases be
  · go_wp2_with fail
    go_ret
    exact ⟨ret_b (by rw [E.out]; first | rfl | (simp; done)), L1.out⟩
  · go_wp2_with fail
    refine (K1.out _).mono ?_; rintro e w' ⟨rfl, rfl⟩
    cases b1
    · go_wp2_with fail
      go_ret
      exact ⟨ret_b (by rw [E.out]; first | rfl | (simp; done)), L1.out⟩
    · go_wp2_with fail
      refine (K2.out _).mono ?_; rintro e w' ⟨rfl, rfl⟩
      cases b2
      · go_wp2_with fail
        go_ret
        exact ⟨ret_b (by rw [E.out]; first | rfl | (simp; done)), L1.out⟩
      · go_wp2_with fail
        refine (K3.out _).mono ?_; rintro e w' ⟨rfl, rfl⟩
        go_wp2_with fail
        go_ret
        exact ⟨ret_b (by rw [E.out]; first | rfl | (simp; done)), L1.out⟩
set_option maxHeartbeats 4000000 in
theorem rrightY_any (y : Ey) (hy : y.ok) (w : World) : Calls Try.prog 20 #[.agg #[.bool y.e.a.v6, .int .u64 y.e.a.hi, .int .u64 y.e.a.lo, .int .i64 y.e.n, .int .i64 y.st, .int .i64 y.f, .int .i64 y.nx]] w fun e w' => e = .returned (.bool (rightY y)) ∧ Below w.heap.size w w' := by
  have L0 : Hid (Below w.heap.size w (w.alloc (.cells #[.bool y.e.a.v6, .int .u64 y.e.a.hi, .int .u64 y.e.a.lo, .int .i64 y.e.n, .int .i64 y.st, .int .i64 y.f, .int .i64 y.nx] 29))) := Lib.hid (Lows.alloc (Lows.self w) _)
  have OB := Lib.hid (Blk.new w #[.bool y.e.a.v6, .int .u64 y.e.a.hi, .int .u64 y.e.a.lo, .int .i64 y.e.n, .int .i64 y.st, .int .i64 y.f, .int .i64 y.nx] 29)
  have E : Hid (rightY y = (rightE y.e && inB y.st 1 3 && inB y.f 0 1000 && inB y.nx 0 1099511627776)) := Lib.hid rfl
  have KE := Lib.hid (fun W => rrightE_any y.e W hy.he)
  generalize rightY y = r at *
  generalize rightE y.e = be at *
  clear hy
  go_enter Try.func20, Try.ntmps20
  go_wp2_with fail
  refine (KE.out _).mono ?_; rintro e w1 ⟨rfl, hb1⟩
  have L1 := Lib.hid (low_trans L0.out hb1)
  have own := OB.out.on hb1
  have s4 := own.cell (j := 4) rfl
  have s5 := own.cell (j := 5) rfl
  have s6 := own.cell (j := 6) rfl
  clear own hb1
  cases be
  · go_wp2_with fail
    go_ret
    exact ⟨ret_b (by rw [E.out]; first | rfl | (simp; done)), L1.out⟩
  · by_cases h0 : 1 ≤ y.st
    · by_cases h1 : y.st ≤ 3
      · by_cases h2 : 0 ≤ y.f
        · by_cases h3 : y.f ≤ 1000
          · by_cases h4 : 0 ≤ y.nx
            · go_wp2_with fail
              go_ret
              exact ⟨ret_b (by rw [E.out]; unfold inB; (try rw [Bool.eq_iff_iff]); (first | (simp; done) | (simp; omega) | (simp only [Bool.and_eq_true, Bool.true_and, decide_eq_true_eq, Bool.false_eq_true]; omega))), L1.out⟩
            · go_wp2_with fail
              go_ret
              exact ⟨ret_b (by rw [E.out]; unfold inB; (try rw [Bool.eq_iff_iff]); (first | (simp; done) | (simp; omega) | (simp only [Bool.and_eq_true, Bool.true_and, decide_eq_true_eq, Bool.false_eq_true]; omega))), L1.out⟩
          · go_wp2_with fail
            go_ret
            exact ⟨ret_b (by rw [E.out]; unfold inB; (try rw [Bool.eq_iff_iff]); (first | (simp; done) | (simp; omega) | (simp only [Bool.and_eq_true, Bool.true_and, decide_eq_true_eq, Bool.false_eq_true]; omega))), L1.out⟩
        · go_wp2_with fail
          go_ret
          exact ⟨ret_b (by rw [E.out]; unfold inB; (try rw [Bool.eq_iff_iff]); (first | (simp; done) | (simp; omega) | (simp only [Bool.and_eq_true, Bool.true_and, decide_eq_true_eq, Bool.false_eq_true]; omega))), L1.out⟩
      · go_wp2_with fail
        go_ret
        exact ⟨ret_b (by rw [E.out]; unfold inB; (try rw [Bool.eq_iff_iff]); (first | (simp; done) | (simp; omega) | (simp only [Bool.and_eq_true, Bool.true_and, decide_eq_true_eq, Bool.false_eq_true]; omega))), L1.out⟩
    · go_wp2_with fail
      go_ret
      exact ⟨ret_b (by rw [E.out]; unfold inB; (try rw [Bool.eq_iff_iff]); (first | (simp; done) | (simp; omega) | (simp only [Bool.and_eq_true, Bool.true_and, decide_eq_true_eq, Bool.false_eq_true]; omega))), L1.out⟩
set_option maxHeartbeats 4000000 in
theorem down_any (y : Ey) (w : World) : Calls Try.prog 30 #[.agg #[.bool y.e.a.v6, .int .u64 y.e.a.hi, .int .u64 y.e.a.lo, .int .i64 y.e.n, .int .i64 y.st, .int .i64 y.f, .int .i64 y.nx]] w fun e w' => e = .returned (.agg #[.bool (stateY y 1).e.a.v6, .int .u64 (stateY y 1).e.a.hi, .int .u64 (stateY y 1).e.a.lo, .int .i64 (stateY y 1).e.n, .int .i64 (stateY y 1).st, .int .i64 (stateY y 1).f, .int .i64 (stateY y 1).nx]) ∧ Below w.heap.size w w' := by
  show Calls Try.prog 30 #[.agg #[.bool y.e.a.v6, .int .u64 y.e.a.hi, .int .u64 y.e.a.lo, .int .i64 y.e.n, .int .i64 y.st, .int .i64 y.f, .int .i64 y.nx]] w fun e w' => e = .returned (.agg #[.bool y.e.a.v6, .int .u64 y.e.a.hi, .int .u64 y.e.a.lo, .int .i64 y.e.n, .int .i64 1, .int .i64 y.f, .int .i64 y.nx]) ∧ Below w.heap.size w w'
  have L0 : Hid (Lows w ((w.alloc (.cells #[.bool y.e.a.v6, .int .u64 y.e.a.hi, .int .u64 y.e.a.lo, .int .i64 y.e.n, .int .i64 y.st, .int .i64 y.f, .int .i64 y.nx] 29)).alloc (.cells #[.bool false, .int .u64 0, .int .u64 0, .int .i64 0, .int .i64 0, .int .i64 0, .int .i64 0] 29))) := Lib.hid (Lows.alloc (Lows.alloc (Lows.self w) _) _)
  go_enter Try.func30, Try.ntmps30
  go_wp2_with fail
  exact bodyPost_ret (v := .agg #[.bool y.e.a.v6, .int .u64 y.e.a.hi, .int .u64 y.e.a.lo, .int .i64 y.e.n, .int .i64 1, .int .i64 y.f, .int .i64 y.nx]) (by simp [results, Try.results30, go_sem]) rfl ⟨rfl, by repeat (first | (with_reducible exact L0.out) | (with_reducible exact Lows.alloc (Lows.alloc (Lows.self _) _) _) | (with_reducible refine Below.setCell ?_ (by first | exact Nat.le_refl _ | exact Nat.le_succ _ | (simp; done) | (simp; omega)) _) | (refine low_drewN ?_ 1))⟩
end Go.Proofs.Ytnflgcpacacnlaa.Et
