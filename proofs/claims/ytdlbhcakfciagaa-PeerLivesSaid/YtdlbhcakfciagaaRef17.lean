/- Contracts of the document of package peer. -/
import Derived.Test.YtdlbhcakfciagaaPeerMath
import Derived.Test.YtdlbhcakfciagaaScore
import Derived.Test.YtdlbhcakfciagaaRef09All
import Derived.Test.YtdlbhcakfciagaaBox
import Derived.Test.YtdlbhcakfciagaaTail
import Derived.Lib.MinMax
namespace Go.Proofs.Ytdlbhcakfciagaa.Pe
set_option maxRecDepth 100000
open Go.ChangeShapes Go.WideShapes Go.ChangeAt Go.RowKit
open Dec Words V4 V6 Ad Ci En Sat Ha
set_option linter.unusedVariables false
set_option maxHeartbeats 4000000 in
theorem rrightP_any (x : Pr) (hx : x.ok) (w : World) : Calls Try.prog 6 #[.agg #[.bool x.e.a.v6, .int .u64 x.e.a.hi, .int .u64 x.e.a.lo, .int .i64 x.e.n, .bool x.i, .int .i64 x.t, .int .i64 x.c.p, .int .i64 x.c.a, .int .i64 x.g, .int .i64 x.k]] w fun e w' => e = .returned (.bool (rightP x)) ∧ Below w.heap.size w w' := by
  have E : Hid (rightP x = (rightE x.e && inR x.t 1099511627776 && inR x.c.a 1099511627776 && inR x.k 1099511627776 && inR x.c.p 1099511627776 && inR x.g 1048576)) := Lib.hid rfl
  have KE := Lib.hid (fun W => rrightE_any x.e W hx.1)
  generalize rightP x = r at *
  generalize rightE x.e = be at *
  clear hx
  have O := Lib.hid (Blk.new w #[.bool x.e.a.v6, .int .u64 x.e.a.hi, .int .u64 x.e.a.lo, .int .i64 x.e.n, .bool x.i, .int .i64 x.t, .int .i64 x.c.p, .int .i64 x.c.a, .int .i64 x.g, .int .i64 x.k] 30)
  have L0 : Hid (Lows w (w.alloc (.cells #[.bool x.e.a.v6, .int .u64 x.e.a.hi, .int .u64 x.e.a.lo, .int .i64 x.e.n, .bool x.i, .int .i64 x.t, .int .i64 x.c.p, .int .i64 x.c.a, .int .i64 x.g, .int .i64 x.k] 30))) := Lib.hid (Lows.alloc (Lows.self w) _)
  go_enter Try.func6, Try.ntmps6
  go_wp2_with fail
  refine (KE.out _).mono ?_; rintro e w1 ⟨rfl, hb1⟩
  have L1 := Lib.hid (low_trans L0.out hb1)
  have own := O.out.on hb1
  have s5 := own.cell (j := 5) rfl
  have s6 := own.cell (j := 6) rfl
  have s7 := own.cell (j := 7) rfl
  have s8 := own.cell (j := 8) rfl
  have s9 := own.cell (j := 9) rfl
  clear own hb1
  cases be
  · go_wp2_with fail
    go_ret
    exact ⟨ret_bool (by rw [E.out]; first | rfl | (simp; done)), L1.out⟩
  · by_cases h0 : x.t < 0
    · go_wp2_with fail
      go_ret
      exact ⟨ret_bool (by rw [E.out]; unfold inR; (try rw [Bool.eq_iff_iff]); (first | (simp; done) | (simp; omega) | (simp only [Bool.and_eq_true, Bool.true_and, decide_eq_true_eq, Bool.false_eq_true]; omega))), L1.out⟩
    · by_cases h1 : 1099511627776 < x.t
      · go_wp2_with fail
        go_ret
        exact ⟨ret_bool (by rw [E.out]; unfold inR; (try rw [Bool.eq_iff_iff]); (first | (simp; done) | (simp; omega) | (simp only [Bool.and_eq_true, Bool.true_and, decide_eq_true_eq, Bool.false_eq_true]; omega))), L1.out⟩
      · by_cases h2 : x.c.a < 0
        · go_wp2_with fail
          go_ret
          exact ⟨ret_bool (by rw [E.out]; unfold inR; (try rw [Bool.eq_iff_iff]); (first | (simp; done) | (simp; omega) | (simp only [Bool.and_eq_true, Bool.true_and, decide_eq_true_eq, Bool.false_eq_true]; omega))), L1.out⟩
        · by_cases h3 : 1099511627776 < x.c.a
          · go_wp2_with fail
            go_ret
            exact ⟨ret_bool (by rw [E.out]; unfold inR; (try rw [Bool.eq_iff_iff]); (first | (simp; done) | (simp; omega) | (simp only [Bool.and_eq_true, Bool.true_and, decide_eq_true_eq, Bool.false_eq_true]; omega))), L1.out⟩
          · by_cases h4 : 0 ≤ x.k
            · by_cases h5 : x.k ≤ 1099511627776
              · by_cases h6 : 0 ≤ x.c.p
                · by_cases h7 : x.c.p ≤ 1099511627776
                  · by_cases h8 : 0 ≤ x.g
                    · go_wp2_with fail
                      go_ret
                      exact ⟨ret_bool (by rw [E.out]; unfold inR; (try rw [Bool.eq_iff_iff]); (first | (simp; done) | (simp; omega) | (simp only [Bool.and_eq_true, Bool.true_and, decide_eq_true_eq, Bool.false_eq_true]; omega))), L1.out⟩
                    · go_wp2_with fail
                      go_ret
                      exact ⟨ret_bool (by rw [E.out]; unfold inR; (try rw [Bool.eq_iff_iff]); (first | (simp; done) | (simp; omega) | (simp only [Bool.and_eq_true, Bool.true_and, decide_eq_true_eq, Bool.false_eq_true]; omega))), L1.out⟩
                  · go_wp2_with fail
                    go_ret
                    exact ⟨ret_bool (by rw [E.out]; unfold inR; (try rw [Bool.eq_iff_iff]); (first | (simp; done) | (simp; omega) | (simp only [Bool.and_eq_true, Bool.true_and, decide_eq_true_eq, Bool.false_eq_true]; omega))), L1.out⟩
                · go_wp2_with fail
                  go_ret
                  exact ⟨ret_bool (by rw [E.out]; unfold inR; (try rw [Bool.eq_iff_iff]); (first | (simp; done) | (simp; omega) | (simp only [Bool.and_eq_true, Bool.true_and, decide_eq_true_eq, Bool.false_eq_true]; omega))), L1.out⟩
              · go_wp2_with fail
                go_ret
                exact ⟨ret_bool (by rw [E.out]; unfold inR; (try rw [Bool.eq_iff_iff]); (first | (simp; done) | (simp; omega) | (simp only [Bool.and_eq_true, Bool.true_and, decide_eq_true_eq, Bool.false_eq_true]; omega))), L1.out⟩
            · go_wp2_with fail
              go_ret
              exact ⟨ret_bool (by rw [E.out]; unfold inR; (try rw [Bool.eq_iff_iff]); (first | (simp; done) | (simp; omega) | (simp only [Bool.and_eq_true, Bool.true_and, decide_eq_true_eq, Bool.false_eq_true]; omega))), L1.out⟩
set_option maxHeartbeats 4000000 in
theorem rnewP_any (e : Endp) (i : Bool) (n : Int) (w : World) : Calls Try.prog 8 #[.agg #[.bool e.a.v6, .int .u64 e.a.hi, .int .u64 e.a.lo, .int .i64 e.n], .bool i, .int .i64 n] w fun r w' => r = .returned (.agg #[.bool (newP e i n).e.a.v6, .int .u64 (newP e i n).e.a.hi, .int .u64 (newP e i n).e.a.lo, .int .i64 (newP e i n).e.n, .bool (newP e i n).i, .int .i64 (newP e i n).t, .int .i64 (newP e i n).c.p, .int .i64 (newP e i n).c.a, .int .i64 (newP e i n).g, .int .i64 (newP e i n).k]) ∧ Below w.heap.size w w' := by
  show Calls Try.prog 8 #[.agg #[.bool e.a.v6, .int .u64 e.a.hi, .int .u64 e.a.lo, .int .i64 e.n], .bool i, .int .i64 n] w fun r w' => r = .returned (.agg #[.bool e.a.v6, .int .u64 e.a.hi, .int .u64 e.a.lo, .int .i64 e.n, .bool i, .int .i64 (fit n), .int .i64 0, .int .i64 (fit n), .int .i64 0, .int .i64 0]) ∧ Below w.heap.size w w'
  have F := Lib.hid (fun W => rfit_any n W)
  generalize fit n = m at *
  have L0 : Hid (Lows w ((w.alloc (.cells #[.bool e.a.v6, .int .u64 e.a.hi, .int .u64 e.a.lo, .int .i64 e.n] 26)).alloc (.cells #[.bool false, .int .u64 0, .int .u64 0, .int .i64 0, .bool false, .int .i64 0, .int .i64 0, .int .i64 0, .int .i64 0, .int .i64 0] 30))) := Lib.hid (Lows.alloc (Lows.alloc (Lows.self w) _) _)
  go_enter Try.func8, Try.ntmps8
  go_wp2_with fail
  refine (F.out _).mono ?_; rintro r w' ⟨rfl, rfl⟩
  go_wp2_with fail
  exact bodyPost_ret (v := .agg #[.bool e.a.v6, .int .u64 e.a.hi, .int .u64 e.a.lo, .int .i64 e.n, .bool i, .int .i64 m, .int .i64 0, .int .i64 m, .int .i64 0, .int .i64 0]) (by simp [results, Try.results8, go_sem]) rfl ⟨rfl, by repeat (first | (with_reducible exact L0.out) | (with_reducible exact Lows.alloc (Lows.alloc (Lows.self _) _) _) | (with_reducible refine Below.setCell ?_ (by first | exact Nat.le_refl _ | exact Nat.le_succ _ | (simp; done) | (simp; omega)) _) | (refine low_drewN ?_ 1))⟩
set_option maxHeartbeats 4000000 in
theorem rpong_any (x : Pr) (m : Int) (w : World) : Calls Try.prog 10 #[.agg #[.bool x.e.a.v6, .int .u64 x.e.a.hi, .int .u64 x.e.a.lo, .int .i64 x.e.n, .bool x.i, .int .i64 x.t, .int .i64 x.c.p, .int .i64 x.c.a, .int .i64 x.g, .int .i64 x.k], .int .i64 m] w fun e w' => e = .returned (.agg #[.bool (pongP x m).e.a.v6, .int .u64 (pongP x m).e.a.hi, .int .u64 (pongP x m).e.a.lo, .int .i64 (pongP x m).e.n, .bool (pongP x m).i, .int .i64 (pongP x m).t, .int .i64 (pongP x m).c.p, .int .i64 (pongP x m).c.a, .int .i64 (pongP x m).g, .int .i64 (pongP x m).k]) ∧ Below w.heap.size w w' := by
  show Calls Try.prog 10 #[.agg #[.bool x.e.a.v6, .int .u64 x.e.a.hi, .int .u64 x.e.a.lo, .int .i64 x.e.n, .bool x.i, .int .i64 x.t, .int .i64 x.c.p, .int .i64 x.c.a, .int .i64 x.g, .int .i64 x.k], .int .i64 m] w fun e w' => e = .returned (.agg #[.bool x.e.a.v6, .int .u64 x.e.a.hi, .int .u64 x.e.a.lo, .int .i64 x.e.n, .bool x.i, .int .i64 x.t, .int .i64 x.c.p, .int .i64 x.c.a, .int .i64 (pongG x.g m), .int .i64 x.k]) ∧ Below w.heap.size w w'
  have L0 : Hid (Lows w ((w.alloc (.cells #[.bool x.e.a.v6, .int .u64 x.e.a.hi, .int .u64 x.e.a.lo, .int .i64 x.e.n, .bool x.i, .int .i64 x.t, .int .i64 x.c.p, .int .i64 x.c.a, .int .i64 x.g, .int .i64 x.k] 30)).alloc (.cells #[.bool false, .int .u64 0, .int .u64 0, .int .i64 0, .bool false, .int .i64 0, .int .i64 0, .int .i64 0, .int .i64 0, .int .i64 0] 30))) := Lib.hid (Lows.alloc (Lows.alloc (Lows.self w) _) _)
  by_cases h1 : 1 ≤ m
  · by_cases h2 : m ≤ 1048576
    · by_cases h3 : x.g = 0
      · have E : pongG x.g m = m := by unfold pongG; first | rw [if_pos (by omega)] | rw [if_neg (by omega)]
        rw [E]
        clear E
        have h1b : ¬ m < 1 := by omega
        have h2b : ¬ 1048576 < m := by omega
        have hq : (x.g == 0) = true := by rw [beq_iff_eq]; exact h3
        have hq2 : (x.g != 0) = false := by rw [bne_eq_false_iff_eq]; exact h3
        clear h3
        go_enter Try.func10, Try.ntmps10
        go_wp2_with fail
        exact bodyPost_ret (v := .agg #[.bool x.e.a.v6, .int .u64 x.e.a.hi, .int .u64 x.e.a.lo, .int .i64 x.e.n, .bool x.i, .int .i64 x.t, .int .i64 x.c.p, .int .i64 x.c.a, .int .i64 m, .int .i64 x.k]) (by simp [results, Try.results10, go_sem]) rfl ⟨rfl, by repeat (first | (with_reducible exact L0.out) | (with_reducible exact Lows.alloc (Lows.alloc (Lows.self _) _) _) | (with_reducible refine Below.setCell ?_ (by first | exact Nat.le_refl _ | exact Nat.le_succ _ | (simp; done) | (simp; omega)) _) | (refine low_drewN ?_ 1))⟩
      · by_cases h4 : m < x.g
        · have E : pongG x.g m = m := by unfold pongG; first | rw [if_pos (by omega)] | rw [if_neg (by omega)]
          rw [E]
          clear E
          have h1b : ¬ m < 1 := by omega
          have h2b : ¬ 1048576 < m := by omega
          have h4b : ¬ x.g ≤ m := by omega
          have hq : (x.g == 0) = false := by rw [beq_eq_false_iff_ne]; exact h3
          have hq2 : (x.g != 0) = true := by rw [bne_iff_ne]; exact h3
          clear h3
          go_enter Try.func10, Try.ntmps10
          go_wp2_with fail
          exact bodyPost_ret (v := .agg #[.bool x.e.a.v6, .int .u64 x.e.a.hi, .int .u64 x.e.a.lo, .int .i64 x.e.n, .bool x.i, .int .i64 x.t, .int .i64 x.c.p, .int .i64 x.c.a, .int .i64 m, .int .i64 x.k]) (by simp [results, Try.results10, go_sem]) rfl ⟨rfl, by repeat (first | (with_reducible exact L0.out) | (with_reducible exact Lows.alloc (Lows.alloc (Lows.self _) _) _) | (with_reducible refine Below.setCell ?_ (by first | exact Nat.le_refl _ | exact Nat.le_succ _ | (simp; done) | (simp; omega)) _) | (refine low_drewN ?_ 1))⟩
        · have E : pongG x.g m = x.g := by unfold pongG; first | rw [if_pos (by omega)] | rw [if_neg (by omega)]
          rw [E]
          clear E
          have h1b : ¬ m < 1 := by omega
          have h2b : ¬ 1048576 < m := by omega
          have h4b : x.g ≤ m := by omega
          have hq : (x.g == 0) = false := by rw [beq_eq_false_iff_ne]; exact h3
          have hq2 : (x.g != 0) = true := by rw [bne_iff_ne]; exact h3
          clear h3
          go_enter Try.func10, Try.ntmps10
          go_wp2_with fail
          exact bodyPost_ret (v := .agg #[.bool x.e.a.v6, .int .u64 x.e.a.hi, .int .u64 x.e.a.lo, .int .i64 x.e.n, .bool x.i, .int .i64 x.t, .int .i64 x.c.p, .int .i64 x.c.a, .int .i64 x.g, .int .i64 x.k]) (by simp [results, Try.results10, go_sem]) rfl ⟨rfl, by repeat (first | (with_reducible exact L0.out) | (with_reducible exact Lows.alloc (Lows.alloc (Lows.self _) _) _) | (with_reducible refine Below.setCell ?_ (by first | exact Nat.le_refl _ | exact Nat.le_succ _ | (simp; done) | (simp; omega)) _) | (refine low_drewN ?_ 1))⟩
    · have E : pongG x.g m = x.g := by unfold pongG; first | rw [if_pos (by omega)] | rw [if_neg (by omega)]
      rw [E]
      clear E
      have h1b : ¬ m < 1 := by omega
      have h2b : 1048576 < m := by omega
      go_enter Try.func10, Try.ntmps10
      go_wp2_with fail
      exact bodyPost_ret (v := .agg #[.bool x.e.a.v6, .int .u64 x.e.a.hi, .int .u64 x.e.a.lo, .int .i64 x.e.n, .bool x.i, .int .i64 x.t, .int .i64 x.c.p, .int .i64 x.c.a, .int .i64 x.g, .int .i64 x.k]) (by simp [results, Try.results10, go_sem]) rfl ⟨rfl, by repeat (first | (with_reducible exact L0.out) | (with_reducible exact Lows.alloc (Lows.alloc (Lows.self _) _) _) | (with_reducible refine Below.setCell ?_ (by first | exact Nat.le_refl _ | exact Nat.le_succ _ | (simp; done) | (simp; omega)) _) | (refine low_drewN ?_ 1))⟩
  · have E : pongG x.g m = x.g := by unfold pongG; first | rw [if_pos (by omega)] | rw [if_neg (by omega)]
    rw [E]
    clear E
    have h1b : m < 1 := by omega
    go_enter Try.func10, Try.ntmps10
    go_wp2_with fail
    exact bodyPost_ret (v := .agg #[.bool x.e.a.v6, .int .u64 x.e.a.hi, .int .u64 x.e.a.lo, .int .i64 x.e.n, .bool x.i, .int .i64 x.t, .int .i64 x.c.p, .int .i64 x.c.a, .int .i64 x.g, .int .i64 x.k]) (by simp [results, Try.results10, go_sem]) rfl ⟨rfl, by repeat (first | (with_reducible exact L0.out) | (with_reducible exact Lows.alloc (Lows.alloc (Lows.self _) _) _) | (with_reducible refine Below.setCell ?_ (by first | exact Nat.le_refl _ | exact Nat.le_succ _ | (simp; done) | (simp; omega)) _) | (refine low_drewN ?_ 1))⟩
set_option maxHeartbeats 4000000 in
theorem rworked_any (x : Pr) (n : Int) (w : World) : Calls Try.prog 12 #[.agg #[.bool x.e.a.v6, .int .u64 x.e.a.hi, .int .u64 x.e.a.lo, .int .i64 x.e.n, .bool x.i, .int .i64 x.t, .int .i64 x.c.p, .int .i64 x.c.a, .int .i64 x.g, .int .i64 x.k], .int .i64 n] w fun e w' => e = .returned (.agg #[.bool (workP x n).e.a.v6, .int .u64 (workP x n).e.a.hi, .int .u64 (workP x n).e.a.lo, .int .i64 (workP x n).e.n, .bool (workP x n).i, .int .i64 (workP x n).t, .int .i64 (workP x n).c.p, .int .i64 (workP x n).c.a, .int .i64 (workP x n).g, .int .i64 (workP x n).k]) ∧ Below w.heap.size w w' := by
  show Calls Try.prog 12 #[.agg #[.bool x.e.a.v6, .int .u64 x.e.a.hi, .int .u64 x.e.a.lo, .int .i64 x.e.n, .bool x.i, .int .i64 x.t, .int .i64 x.c.p, .int .i64 x.c.a, .int .i64 x.g, .int .i64 x.k], .int .i64 n] w fun e w' => e = .returned (.agg #[.bool x.e.a.v6, .int .u64 x.e.a.hi, .int .u64 x.e.a.lo, .int .i64 x.e.n, .bool x.i, .int .i64 x.t, .int .i64 x.c.p, .int .i64 x.c.a, .int .i64 x.g, .int .i64 (workK x.k n)]) ∧ Below w.heap.size w w'
  have F := Lib.hid (fun W => rfit_any n W)
  have L0 : Hid (Lows w ((w.alloc (.cells #[.bool x.e.a.v6, .int .u64 x.e.a.hi, .int .u64 x.e.a.lo, .int .i64 x.e.n, .bool x.i, .int .i64 x.t, .int .i64 x.c.p, .int .i64 x.c.a, .int .i64 x.g, .int .i64 x.k] 30)).alloc (.cells #[.bool false, .int .u64 0, .int .u64 0, .int .i64 0, .bool false, .int .i64 0, .int .i64 0, .int .i64 0, .int .i64 0, .int .i64 0] 30))) := Lib.hid (Lows.alloc (Lows.alloc (Lows.self w) _) _)
  by_cases h : x.k < fit n
  · have E : workK x.k n = fit n := by unfold workK; rw [if_pos h]
    rw [E]
    generalize fit n = m at *
    clear E
    go_enter Try.func12, Try.ntmps12
    go_wp2_with fail
    refine (F.out _).mono ?_; rintro e w' ⟨rfl, rfl⟩
    go_wp2_with fail
    exact bodyPost_ret (v := .agg #[.bool x.e.a.v6, .int .u64 x.e.a.hi, .int .u64 x.e.a.lo, .int .i64 x.e.n, .bool x.i, .int .i64 x.t, .int .i64 x.c.p, .int .i64 x.c.a, .int .i64 x.g, .int .i64 m]) (by simp [results, Try.results12, go_sem]) rfl ⟨rfl, by repeat (first | (with_reducible exact L0.out) | (with_reducible exact Lows.alloc (Lows.alloc (Lows.self _) _) _) | (with_reducible refine Below.setCell ?_ (by first | exact Nat.le_refl _ | exact Nat.le_succ _ | (simp; done) | (simp; omega)) _) | (refine low_drewN ?_ 1))⟩
  · have E : workK x.k n = x.k := by unfold workK; rw [if_neg h]
    rw [E]
    generalize fit n = m at *
    clear E
    go_enter Try.func12, Try.ntmps12
    go_wp2_with fail
    refine (F.out _).mono ?_; rintro e w' ⟨rfl, rfl⟩
    go_wp2_with fail
    exact bodyPost_ret (v := .agg #[.bool x.e.a.v6, .int .u64 x.e.a.hi, .int .u64 x.e.a.lo, .int .i64 x.e.n, .bool x.i, .int .i64 x.t, .int .i64 x.c.p, .int .i64 x.c.a, .int .i64 x.g, .int .i64 x.k]) (by simp [results, Try.results12, go_sem]) rfl ⟨rfl, by repeat (first | (with_reducible exact L0.out) | (with_reducible exact Lows.alloc (Lows.alloc (Lows.self _) _) _) | (with_reducible refine Below.setCell ?_ (by first | exact Nat.le_refl _ | exact Nat.le_succ _ | (simp; done) | (simp; omega)) _) | (refine low_drewN ?_ 1))⟩
set_option maxHeartbeats 4000000 in
theorem rblamed_any (x : Pr) (n h a : Int) (w : World) : Calls Try.prog 14 #[.agg #[.bool x.e.a.v6, .int .u64 x.e.a.hi, .int .u64 x.e.a.lo, .int .i64 x.e.n, .bool x.i, .int .i64 x.t, .int .i64 x.c.p, .int .i64 x.c.a, .int .i64 x.g, .int .i64 x.k], .int .i64 n, .int .i64 h, .int .i64 a] w fun e w' => e = .returned (.agg #[.bool (blameP x n h a).e.a.v6, .int .u64 (blameP x n h a).e.a.hi, .int .u64 (blameP x n h a).e.a.lo, .int .i64 (blameP x n h a).e.n, .bool (blameP x n h a).i, .int .i64 (blameP x n h a).t, .int .i64 (blameP x n h a).c.p, .int .i64 (blameP x n h a).c.a, .int .i64 (blameP x n h a).g, .int .i64 (blameP x n h a).k]) ∧ Below w.heap.size w w' := by
  show Calls Try.prog 14 #[.agg #[.bool x.e.a.v6, .int .u64 x.e.a.hi, .int .u64 x.e.a.lo, .int .i64 x.e.n, .bool x.i, .int .i64 x.t, .int .i64 x.c.p, .int .i64 x.c.a, .int .i64 x.g, .int .i64 x.k], .int .i64 n, .int .i64 h, .int .i64 a] w fun e w' => e = .returned (.agg #[.bool x.e.a.v6, .int .u64 x.e.a.hi, .int .u64 x.e.a.lo, .int .i64 x.e.n, .bool x.i, .int .i64 x.t, .int .i64 (addS x.c n h a).p, .int .i64 (addS x.c n h a).a, .int .i64 x.g, .int .i64 x.k]) ∧ Below w.heap.size w w'
  have D := Lib.hid (fun W => raddS_any x.c n h a W)
  generalize addS x.c n h a = d at *
  have L0 : Hid (Lows w ((w.alloc (.cells #[.bool x.e.a.v6, .int .u64 x.e.a.hi, .int .u64 x.e.a.lo, .int .i64 x.e.n, .bool x.i, .int .i64 x.t, .int .i64 x.c.p, .int .i64 x.c.a, .int .i64 x.g, .int .i64 x.k] 30)).alloc (.cells #[.bool false, .int .u64 0, .int .u64 0, .int .i64 0, .bool false, .int .i64 0, .int .i64 0, .int .i64 0, .int .i64 0, .int .i64 0] 30))) := Lib.hid (Lows.alloc (Lows.alloc (Lows.self w) _) _)
  have O1 := Lib.hid ((Blk.new w #[.bool x.e.a.v6, .int .u64 x.e.a.hi, .int .u64 x.e.a.lo, .int .i64 x.e.n, .bool x.i, .int .i64 x.t, .int .i64 x.c.p, .int .i64 x.c.a, .int .i64 x.g, .int .i64 x.k] 30).alloc (.cells #[.bool false, .int .u64 0, .int .u64 0, .int .i64 0, .bool false, .int .i64 0, .int .i64 0, .int .i64 0, .int .i64 0, .int .i64 0] 30))
  have O2 := Lib.hid (Blk.two w (.cells #[.bool x.e.a.v6, .int .u64 x.e.a.hi, .int .u64 x.e.a.lo, .int .i64 x.e.n, .bool x.i, .int .i64 x.t, .int .i64 x.c.p, .int .i64 x.c.a, .int .i64 x.g, .int .i64 x.k] 30) #[.bool false, .int .u64 0, .int .u64 0, .int .i64 0, .bool false, .int .i64 0, .int .i64 0, .int .i64 0, .int .i64 0, .int .i64 0] 30)
  go_enter Try.func14, Try.ntmps14
  go_wp2_with fail
  refine (D.out _).mono ?_
  rintro e w1 ⟨rfl, hb1⟩
  have L1 := Lib.hid (low_trans L0.out hb1)
  have own1 := O1.out.on hb1
  have own2 := O2.out.on hb1
  have s0 := own1.cell (j := 0) rfl
  have f0 := own1.free 0
  have t0 := own2.cell (j := 0) rfl
  have g0 := own2.free 0
  have s1 := own1.cell (j := 1) rfl
  have f1 := own1.free 1
  have t1 := own2.cell (j := 1) rfl
  have g1 := own2.free 1
  have s2 := own1.cell (j := 2) rfl
  have f2 := own1.free 2
  have t2 := own2.cell (j := 2) rfl
  have g2 := own2.free 2
  have s3 := own1.cell (j := 3) rfl
  have f3 := own1.free 3
  have t3 := own2.cell (j := 3) rfl
  have g3 := own2.free 3
  have s4 := own1.cell (j := 4) rfl
  have f4 := own1.free 4
  have t4 := own2.cell (j := 4) rfl
  have g4 := own2.free 4
  have s5 := own1.cell (j := 5) rfl
  have f5 := own1.free 5
  have t5 := own2.cell (j := 5) rfl
  have g5 := own2.free 5
  have s6 := own1.cell (j := 6) rfl
  have f6 := own1.free 6
  have t6 := own2.cell (j := 6) rfl
  have g6 := own2.free 6
  have s7 := own1.cell (j := 7) rfl
  have f7 := own1.free 7
  have t7 := own2.cell (j := 7) rfl
  have g7 := own2.free 7
  have s8 := own1.cell (j := 8) rfl
  have f8 := own1.free 8
  have t8 := own2.cell (j := 8) rfl
  have g8 := own2.free 8
  have s9 := own1.cell (j := 9) rfl
  have f9 := own1.free 9
  have t9 := own2.cell (j := 9) rfl
  have g9 := own2.free 9
  clear hb1 D O1 O2 own1 own2
  go_wp2_with fail
  exact bodyPost_ret (v := .agg #[.bool x.e.a.v6, .int .u64 x.e.a.hi, .int .u64 x.e.a.lo, .int .i64 x.e.n, .bool x.i, .int .i64 x.t, .int .i64 d.p, .int .i64 d.a, .int .i64 x.g, .int .i64 x.k]) (by simp [results, Try.results14, go_sem, t0, t1, t2, t3, t4, t5, t6, t7, t8, t9]) rfl ⟨rfl, by repeat (first | (with_reducible exact L1.out) | (with_reducible exact Lows.alloc (Lows.alloc (Lows.self _) _) _) | (with_reducible refine Below.setCell ?_ (by first | exact Nat.le_refl _ | exact Nat.le_succ _ | (simp; done) | (simp; omega)) _) | (refine low_drewN ?_ 1))⟩
set_option maxHeartbeats 8000000 in
theorem rtextP_any (x : Pr) (hx : x.ok) (w : World) : Calls Try.prog 16 #[.agg #[.bool x.e.a.v6, .int .u64 x.e.a.hi, .int .u64 x.e.a.lo, .int .i64 x.e.n, .bool x.i, .int .i64 x.t, .int .i64 x.c.p, .int .i64 x.c.a, .int .i64 x.g, .int .i64 x.k]] w fun e w' => e = .returned (.string ⟨(textP x).toArray⟩) ∧ Below w.heap.size w w' := by
  have C1 := Lib.hid (fun W => rtextE_any x.e W hx.1)
  have C2 := Lib.hid (fun W => rtext_any x.t W hx.2.1.1 hx.2.1.2)
  have C3 := Lib.hid (fun W => rwhole_any x.c hx.2.2.1 W)
  have C4 := Lib.hid (fun W => rtext_any (wholeS x.c) W (whole_bd hx.2.2.1).1 (whole_bd hx.2.2.1).2)
  have C5 := Lib.hid (fun W => rtext_any x.g W hx.2.2.2.1.1 hx.2.2.2.1.2)
  have C6 := Lib.hid (fun W => rtext_any x.k W hx.2.2.2.2.1 hx.2.2.2.2.2)
  have m1 := textE_len hx.1
  have m2 := text_len x.t hx.2.1.1 hx.2.1.2
  have m3 := text_len (wholeS x.c) (whole_bd hx.2.2.1).1 (whole_bd hx.2.2.1).2
  have m4 := text_len x.g hx.2.2.2.1.1 hx.2.2.2.1.2
  have m5 := text_len x.k hx.2.2.2.2.1 hx.2.2.2.2.2
  have O := Lib.hid (Blk.new w #[.bool x.e.a.v6, .int .u64 x.e.a.hi, .int .u64 x.e.a.lo, .int .i64 x.e.n, .bool x.i, .int .i64 x.t, .int .i64 x.c.p, .int .i64 x.c.a, .int .i64 x.g, .int .i64 x.k] 30)
  have L0 : Hid (Lows w (w.alloc (.cells #[.bool x.e.a.v6, .int .u64 x.e.a.hi, .int .u64 x.e.a.lo, .int .i64 x.e.n, .bool x.i, .int .i64 x.t, .int .i64 x.c.p, .int .i64 x.c.a, .int .i64 x.g, .int .i64 x.k] 30))) := Lib.hid (Lows.alloc (Lows.self w) _)
  cases hbi : x.i
  · obtain ⟨S1, e1⟩ : ∃ S : List UInt8, [111, 117, 116, 32] ++ textE x.e = S := ⟨_, rfl⟩
    have n1 : S1.length ≤ 100 := by rw [← e1]; simp; omega
    obtain ⟨S2, e2⟩ : ∃ S : List UInt8, S1 ++ [32, 115, 105, 110, 99, 101, 32] = S := ⟨_, rfl⟩
    have n2 : S2.length ≤ 200 := by rw [← e2]; simp; omega
    obtain ⟨S3, e3⟩ : ∃ S : List UInt8, S2 ++ text x.t = S := ⟨_, rfl⟩
    have n3 : S3.length ≤ 300 := by rw [← e3]; simp; omega
    obtain ⟨S4, e4⟩ : ∃ S : List UInt8, S3 ++ [32, 112, 111, 105, 110, 116, 115, 32] = S := ⟨_, rfl⟩
    have n4 : S4.length ≤ 400 := by rw [← e4]; simp; omega
    obtain ⟨S5, e5⟩ : ∃ S : List UInt8, S4 ++ text (wholeS x.c) = S := ⟨_, rfl⟩
    have n5 : S5.length ≤ 500 := by rw [← e5]; simp; omega
    obtain ⟨S6, e6⟩ : ∃ S : List UInt8, S5 ++ [32, 112, 105, 110, 103, 32] = S := ⟨_, rfl⟩
    have n6 : S6.length ≤ 600 := by rw [← e6]; simp; omega
    obtain ⟨S7, e7⟩ : ∃ S : List UInt8, S6 ++ text x.g = S := ⟨_, rfl⟩
    have n7 : S7.length ≤ 700 := by rw [← e7]; simp; omega
    obtain ⟨S8, e8⟩ : ∃ S : List UInt8, S7 ++ [32, 119, 111, 114, 107, 32] = S := ⟨_, rfl⟩
    have n8 : S8.length ≤ 800 := by rw [← e8]; simp; omega
    obtain ⟨S9, e9⟩ : ∃ S : List UInt8, S8 ++ text x.k = S := ⟨_, rfl⟩
    have n9 : S9.length ≤ 900 := by rw [← e9]; simp; omega
    have E : Hid (textP x = S9) := Lib.hid (by rw [← e9, ← e8, ← e7, ← e6, ← e5, ← e4, ← e3, ← e2, ← e1]; unfold textP wordsP wayP; rw [hbi]; simp [glue])
    rw [E.out]
    rw [hbi] at O L0
    clear hbi E
    generalize textE x.e = T at *
    generalize text x.t = A1 at *
    generalize text (wholeS x.c) = A2 at *
    generalize text x.g = A3 at *
    generalize text x.k = A4 at *
    generalize wholeS x.c = pt at *
    have g1 := fun W => add_is (a := [111, 117, 116, 32]) (b := T) (c := S1) e1 (by omega) W
    have g2 := fun W => add_is (a := S1) (b := [32, 115, 105, 110, 99, 101, 32]) (c := S2) e2 (by omega) W
    have g3 := fun W => add_is (a := S2) (b := A1) (c := S3) e3 (by omega) W
    have g4 := fun W => add_is (a := S3) (b := [32, 112, 111, 105, 110, 116, 115, 32]) (c := S4) e4 (by omega) W
    have g5 := fun W => add_is (a := S4) (b := A2) (c := S5) e5 (by omega) W
    have g6 := fun W => add_is (a := S5) (b := [32, 112, 105, 110, 103, 32]) (c := S6) e6 (by omega) W
    have g7 := fun W => add_is (a := S6) (b := A3) (c := S7) e7 (by omega) W
    have g8 := fun W => add_is (a := S7) (b := [32, 119, 111, 114, 107, 32]) (c := S8) e8 (by omega) W
    have g9 := fun W => add_is (a := S8) (b := A4) (c := S9) e9 (by omega) W
    clear e1 e2 e3 e4 e5 e6 e7 e8 e9 n1 n2 n3 n4 n5 n6 n7 n8 n9 m1 m2 m3 m4 m5 hx
    go_enter Try.func16, Try.ntmps16
    go_wp2_with fail
    have hne : Nonempty (Cls (Lows (w.alloc (.cells #[.bool x.e.a.v6, .int .u64 x.e.a.hi, .int .u64 x.e.a.lo, .int .i64 x.e.n, .bool false, .int .i64 x.t, .int .i64 x.c.p, .int .i64 x.c.a, .int .i64 x.g, .int .i64 x.k] 30)))) := ⟨⟨_, Lows.self _⟩⟩
    have f0 : ∀ nq : Cls (Lows (w.alloc (.cells #[.bool x.e.a.v6, .int .u64 x.e.a.hi, .int .u64 x.e.a.lo, .int .i64 x.e.n, .bool false, .int .i64 x.t, .int .i64 x.c.p, .int .i64 x.c.a, .int .i64 x.g, .int .i64 x.k] 30))), nq.w.cell? ⟨w.heap.size, 0, none⟩ = some (.bool x.e.a.v6) := fun nq => Blk.in O nq.h rfl
    have f1 : ∀ nq : Cls (Lows (w.alloc (.cells #[.bool x.e.a.v6, .int .u64 x.e.a.hi, .int .u64 x.e.a.lo, .int .i64 x.e.n, .bool false, .int .i64 x.t, .int .i64 x.c.p, .int .i64 x.c.a, .int .i64 x.g, .int .i64 x.k] 30))), nq.w.cell? ⟨w.heap.size, 1, none⟩ = some (.int .u64 x.e.a.hi) := fun nq => Blk.in O nq.h rfl
    have f2 : ∀ nq : Cls (Lows (w.alloc (.cells #[.bool x.e.a.v6, .int .u64 x.e.a.hi, .int .u64 x.e.a.lo, .int .i64 x.e.n, .bool false, .int .i64 x.t, .int .i64 x.c.p, .int .i64 x.c.a, .int .i64 x.g, .int .i64 x.k] 30))), nq.w.cell? ⟨w.heap.size, 2, none⟩ = some (.int .u64 x.e.a.lo) := fun nq => Blk.in O nq.h rfl
    have f3 : ∀ nq : Cls (Lows (w.alloc (.cells #[.bool x.e.a.v6, .int .u64 x.e.a.hi, .int .u64 x.e.a.lo, .int .i64 x.e.n, .bool false, .int .i64 x.t, .int .i64 x.c.p, .int .i64 x.c.a, .int .i64 x.g, .int .i64 x.k] 30))), nq.w.cell? ⟨w.heap.size, 3, none⟩ = some (.int .i64 x.e.n) := fun nq => Blk.in O nq.h rfl
    have f4 : ∀ nq : Cls (Lows (w.alloc (.cells #[.bool x.e.a.v6, .int .u64 x.e.a.hi, .int .u64 x.e.a.lo, .int .i64 x.e.n, .bool false, .int .i64 x.t, .int .i64 x.c.p, .int .i64 x.c.a, .int .i64 x.g, .int .i64 x.k] 30))), nq.w.cell? ⟨w.heap.size, 5, none⟩ = some (.int .i64 x.t) := fun nq => Blk.in O nq.h rfl
    have f5 : ∀ nq : Cls (Lows (w.alloc (.cells #[.bool x.e.a.v6, .int .u64 x.e.a.hi, .int .u64 x.e.a.lo, .int .i64 x.e.n, .bool false, .int .i64 x.t, .int .i64 x.c.p, .int .i64 x.c.a, .int .i64 x.g, .int .i64 x.k] 30))), nq.w.cell? ⟨w.heap.size, 6, none⟩ = some (.int .i64 x.c.p) := fun nq => Blk.in O nq.h rfl
    have f6 : ∀ nq : Cls (Lows (w.alloc (.cells #[.bool x.e.a.v6, .int .u64 x.e.a.hi, .int .u64 x.e.a.lo, .int .i64 x.e.n, .bool false, .int .i64 x.t, .int .i64 x.c.p, .int .i64 x.c.a, .int .i64 x.g, .int .i64 x.k] 30))), nq.w.cell? ⟨w.heap.size, 7, none⟩ = some (.int .i64 x.c.a) := fun nq => Blk.in O nq.h rfl
    have f7 : ∀ nq : Cls (Lows (w.alloc (.cells #[.bool x.e.a.v6, .int .u64 x.e.a.hi, .int .u64 x.e.a.lo, .int .i64 x.e.n, .bool false, .int .i64 x.t, .int .i64 x.c.p, .int .i64 x.c.a, .int .i64 x.g, .int .i64 x.k] 30))), nq.w.cell? ⟨w.heap.size, 8, none⟩ = some (.int .i64 x.g) := fun nq => Blk.in O nq.h rfl
    have f8 : ∀ nq : Cls (Lows (w.alloc (.cells #[.bool x.e.a.v6, .int .u64 x.e.a.hi, .int .u64 x.e.a.lo, .int .i64 x.e.n, .bool false, .int .i64 x.t, .int .i64 x.c.p, .int .i64 x.c.a, .int .i64 x.g, .int .i64 x.k] 30))), nq.w.cell? ⟨w.heap.size, 9, none⟩ = some (.int .i64 x.k) := fun nq => Blk.in O nq.h rfl
    refine Cls.region (Lows (w.alloc (.cells #[.bool x.e.a.v6, .int .u64 x.e.a.hi, .int .u64 x.e.a.lo, .int .i64 x.e.n, .bool false, .int .i64 x.t, .int .i64 x.c.p, .int .i64 x.c.a, .int .i64 x.g, .int .i64 x.k] 30))) (by kernel_rfl) (by kernel_rfl) (low_drewN (Below.refl _ _) 1) ?_
    repeat (go_big_quiet_step (first | fail | (with_reducible exact Cls.call ((lows_call C1).out _ (Cls.h _))) | (with_reducible exact Cls.call ((lows_call C2).out _ (Cls.h _))) | (with_reducible exact Cls.call ((lows_call C3).out _ (Cls.h _))) | (with_reducible exact Cls.call ((lows_call C4).out _ (Cls.h _))) | (with_reducible exact Cls.call ((lows_call C5).out _ (Cls.h _))) | (with_reducible exact Cls.call ((lows_call C6).out _ (Cls.h _)))))
    refine wpQuiet_nil ?_
    intro n9
    have hk9 := n9.h
    generalize n9.w = w9 at hk9 ⊢
    clear hne n9 f0 f1 f2 f3 f4 f5 f6 f7 f8 C1 C2 C3 C4 C5 C6
    go_wp2_with fail
    go_ret
    exact ⟨rfl, low_trans L0.out hk9⟩
  · obtain ⟨S1, e1⟩ : ∃ S : List UInt8, [105, 110, 32] ++ textE x.e = S := ⟨_, rfl⟩
    have n1 : S1.length ≤ 100 := by rw [← e1]; simp; omega
    obtain ⟨S2, e2⟩ : ∃ S : List UInt8, S1 ++ [32, 115, 105, 110, 99, 101, 32] = S := ⟨_, rfl⟩
    have n2 : S2.length ≤ 200 := by rw [← e2]; simp; omega
    obtain ⟨S3, e3⟩ : ∃ S : List UInt8, S2 ++ text x.t = S := ⟨_, rfl⟩
    have n3 : S3.length ≤ 300 := by rw [← e3]; simp; omega
    obtain ⟨S4, e4⟩ : ∃ S : List UInt8, S3 ++ [32, 112, 111, 105, 110, 116, 115, 32] = S := ⟨_, rfl⟩
    have n4 : S4.length ≤ 400 := by rw [← e4]; simp; omega
    obtain ⟨S5, e5⟩ : ∃ S : List UInt8, S4 ++ text (wholeS x.c) = S := ⟨_, rfl⟩
    have n5 : S5.length ≤ 500 := by rw [← e5]; simp; omega
    obtain ⟨S6, e6⟩ : ∃ S : List UInt8, S5 ++ [32, 112, 105, 110, 103, 32] = S := ⟨_, rfl⟩
    have n6 : S6.length ≤ 600 := by rw [← e6]; simp; omega
    obtain ⟨S7, e7⟩ : ∃ S : List UInt8, S6 ++ text x.g = S := ⟨_, rfl⟩
    have n7 : S7.length ≤ 700 := by rw [← e7]; simp; omega
    obtain ⟨S8, e8⟩ : ∃ S : List UInt8, S7 ++ [32, 119, 111, 114, 107, 32] = S := ⟨_, rfl⟩
    have n8 : S8.length ≤ 800 := by rw [← e8]; simp; omega
    obtain ⟨S9, e9⟩ : ∃ S : List UInt8, S8 ++ text x.k = S := ⟨_, rfl⟩
    have n9 : S9.length ≤ 900 := by rw [← e9]; simp; omega
    have E : Hid (textP x = S9) := Lib.hid (by rw [← e9, ← e8, ← e7, ← e6, ← e5, ← e4, ← e3, ← e2, ← e1]; unfold textP wordsP wayP; rw [hbi]; simp [glue])
    rw [E.out]
    rw [hbi] at O L0
    clear hbi E
    generalize textE x.e = T at *
    generalize text x.t = A1 at *
    generalize text (wholeS x.c) = A2 at *
    generalize text x.g = A3 at *
    generalize text x.k = A4 at *
    generalize wholeS x.c = pt at *
    have g1 := fun W => add_is (a := [105, 110, 32]) (b := T) (c := S1) e1 (by omega) W
    have g2 := fun W => add_is (a := S1) (b := [32, 115, 105, 110, 99, 101, 32]) (c := S2) e2 (by omega) W
    have g3 := fun W => add_is (a := S2) (b := A1) (c := S3) e3 (by omega) W
    have g4 := fun W => add_is (a := S3) (b := [32, 112, 111, 105, 110, 116, 115, 32]) (c := S4) e4 (by omega) W
    have g5 := fun W => add_is (a := S4) (b := A2) (c := S5) e5 (by omega) W
    have g6 := fun W => add_is (a := S5) (b := [32, 112, 105, 110, 103, 32]) (c := S6) e6 (by omega) W
    have g7 := fun W => add_is (a := S6) (b := A3) (c := S7) e7 (by omega) W
    have g8 := fun W => add_is (a := S7) (b := [32, 119, 111, 114, 107, 32]) (c := S8) e8 (by omega) W
    have g9 := fun W => add_is (a := S8) (b := A4) (c := S9) e9 (by omega) W
    clear e1 e2 e3 e4 e5 e6 e7 e8 e9 n1 n2 n3 n4 n5 n6 n7 n8 n9 m1 m2 m3 m4 m5 hx
    go_enter Try.func16, Try.ntmps16
    go_wp2_with fail
    have hne : Nonempty (Cls (Lows (w.alloc (.cells #[.bool x.e.a.v6, .int .u64 x.e.a.hi, .int .u64 x.e.a.lo, .int .i64 x.e.n, .bool true, .int .i64 x.t, .int .i64 x.c.p, .int .i64 x.c.a, .int .i64 x.g, .int .i64 x.k] 30)))) := ⟨⟨_, Lows.self _⟩⟩
    have f0 : ∀ nq : Cls (Lows (w.alloc (.cells #[.bool x.e.a.v6, .int .u64 x.e.a.hi, .int .u64 x.e.a.lo, .int .i64 x.e.n, .bool true, .int .i64 x.t, .int .i64 x.c.p, .int .i64 x.c.a, .int .i64 x.g, .int .i64 x.k] 30))), nq.w.cell? ⟨w.heap.size, 0, none⟩ = some (.bool x.e.a.v6) := fun nq => Blk.in O nq.h rfl
    have f1 : ∀ nq : Cls (Lows (w.alloc (.cells #[.bool x.e.a.v6, .int .u64 x.e.a.hi, .int .u64 x.e.a.lo, .int .i64 x.e.n, .bool true, .int .i64 x.t, .int .i64 x.c.p, .int .i64 x.c.a, .int .i64 x.g, .int .i64 x.k] 30))), nq.w.cell? ⟨w.heap.size, 1, none⟩ = some (.int .u64 x.e.a.hi) := fun nq => Blk.in O nq.h rfl
    have f2 : ∀ nq : Cls (Lows (w.alloc (.cells #[.bool x.e.a.v6, .int .u64 x.e.a.hi, .int .u64 x.e.a.lo, .int .i64 x.e.n, .bool true, .int .i64 x.t, .int .i64 x.c.p, .int .i64 x.c.a, .int .i64 x.g, .int .i64 x.k] 30))), nq.w.cell? ⟨w.heap.size, 2, none⟩ = some (.int .u64 x.e.a.lo) := fun nq => Blk.in O nq.h rfl
    have f3 : ∀ nq : Cls (Lows (w.alloc (.cells #[.bool x.e.a.v6, .int .u64 x.e.a.hi, .int .u64 x.e.a.lo, .int .i64 x.e.n, .bool true, .int .i64 x.t, .int .i64 x.c.p, .int .i64 x.c.a, .int .i64 x.g, .int .i64 x.k] 30))), nq.w.cell? ⟨w.heap.size, 3, none⟩ = some (.int .i64 x.e.n) := fun nq => Blk.in O nq.h rfl
    have f4 : ∀ nq : Cls (Lows (w.alloc (.cells #[.bool x.e.a.v6, .int .u64 x.e.a.hi, .int .u64 x.e.a.lo, .int .i64 x.e.n, .bool true, .int .i64 x.t, .int .i64 x.c.p, .int .i64 x.c.a, .int .i64 x.g, .int .i64 x.k] 30))), nq.w.cell? ⟨w.heap.size, 5, none⟩ = some (.int .i64 x.t) := fun nq => Blk.in O nq.h rfl
    have f5 : ∀ nq : Cls (Lows (w.alloc (.cells #[.bool x.e.a.v6, .int .u64 x.e.a.hi, .int .u64 x.e.a.lo, .int .i64 x.e.n, .bool true, .int .i64 x.t, .int .i64 x.c.p, .int .i64 x.c.a, .int .i64 x.g, .int .i64 x.k] 30))), nq.w.cell? ⟨w.heap.size, 6, none⟩ = some (.int .i64 x.c.p) := fun nq => Blk.in O nq.h rfl
    have f6 : ∀ nq : Cls (Lows (w.alloc (.cells #[.bool x.e.a.v6, .int .u64 x.e.a.hi, .int .u64 x.e.a.lo, .int .i64 x.e.n, .bool true, .int .i64 x.t, .int .i64 x.c.p, .int .i64 x.c.a, .int .i64 x.g, .int .i64 x.k] 30))), nq.w.cell? ⟨w.heap.size, 7, none⟩ = some (.int .i64 x.c.a) := fun nq => Blk.in O nq.h rfl
    have f7 : ∀ nq : Cls (Lows (w.alloc (.cells #[.bool x.e.a.v6, .int .u64 x.e.a.hi, .int .u64 x.e.a.lo, .int .i64 x.e.n, .bool true, .int .i64 x.t, .int .i64 x.c.p, .int .i64 x.c.a, .int .i64 x.g, .int .i64 x.k] 30))), nq.w.cell? ⟨w.heap.size, 8, none⟩ = some (.int .i64 x.g) := fun nq => Blk.in O nq.h rfl
    have f8 : ∀ nq : Cls (Lows (w.alloc (.cells #[.bool x.e.a.v6, .int .u64 x.e.a.hi, .int .u64 x.e.a.lo, .int .i64 x.e.n, .bool true, .int .i64 x.t, .int .i64 x.c.p, .int .i64 x.c.a, .int .i64 x.g, .int .i64 x.k] 30))), nq.w.cell? ⟨w.heap.size, 9, none⟩ = some (.int .i64 x.k) := fun nq => Blk.in O nq.h rfl
    refine Cls.region (Lows (w.alloc (.cells #[.bool x.e.a.v6, .int .u64 x.e.a.hi, .int .u64 x.e.a.lo, .int .i64 x.e.n, .bool true, .int .i64 x.t, .int .i64 x.c.p, .int .i64 x.c.a, .int .i64 x.g, .int .i64 x.k] 30))) (by kernel_rfl) (by kernel_rfl) (low_drewN (Below.refl _ _) 1) ?_
    repeat (go_big_quiet_step (first | fail | (with_reducible exact Cls.call ((lows_call C1).out _ (Cls.h _))) | (with_reducible exact Cls.call ((lows_call C2).out _ (Cls.h _))) | (with_reducible exact Cls.call ((lows_call C3).out _ (Cls.h _))) | (with_reducible exact Cls.call ((lows_call C4).out _ (Cls.h _))) | (with_reducible exact Cls.call ((lows_call C5).out _ (Cls.h _))) | (with_reducible exact Cls.call ((lows_call C6).out _ (Cls.h _)))))
    refine wpQuiet_nil ?_
    intro n9
    have hk9 := n9.h
    generalize n9.w = w9 at hk9 ⊢
    clear hne n9 f0 f1 f2 f3 f4 f5 f6 f7 f8 C1 C2 C3 C4 C5 C6
    go_wp2_with fail
    go_ret
    exact ⟨rfl, low_trans L0.out hk9⟩
end Go.Proofs.Ytdlbhcakfciagaa.Pe
