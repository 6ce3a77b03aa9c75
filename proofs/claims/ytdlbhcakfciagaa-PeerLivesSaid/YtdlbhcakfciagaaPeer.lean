/- Contracts of package peer. -/
import Derived.Test.YtdlbhcakfciagaaPeerMath
import Derived.Test.YtdlbhcakfciagaaScore
import Derived.Test.YtdlbhcakfciagaaEndpAll
import Derived.Test.YtdlbhcakfciagaaWordsLines
import Derived.Test.YtdlbhcakfciagaaBox
import Derived.Test.YtdlbhcakfciagaaTail
import Derived.Lib.MinMax
namespace Go.Proofs.Ytdlbhcakfciagaa.Pe
set_option maxRecDepth 100000
open Go.ChangeShapes Go.WideShapes Go.ChangeAt Go.RowKit
open Dec Words V4 V6 Ad Ci En Sat Ha
set_option linter.unusedVariables false
theorem within_any (n m : Int) (w : World) : Calls Try.prog 20 #[.int .i64 n, .int .i64 m] w fun e w' => e = .returned (.bool (inR n m)) ∧ w = w' := by
  by_cases h : 0 ≤ n
  · have E : inR n m = decide (n ≤ m) := by unfold inR; simp [h]
    rw [E]
    go_enter Try.func20, Try.ntmps20
    go_wp2
    go_ret
    exact ⟨rfl, rfl⟩
  · have E : inR n m = false := by unfold inR; simp [h]
    rw [E]
    go_enter Try.func20, Try.ntmps20
    go_wp2
    go_ret
    exact ⟨rfl, rfl⟩
theorem tick_any (n : Int) (w : World) : Calls Try.prog 18 #[.int .i64 n] w fun e w' => e = .returned (.bool (inR n 1099511627776)) ∧ w = w' := by
  go_enter Try.func18, Try.ntmps18
  go_wp2_with fail
  refine (within_any _ _ _).mono ?_; rintro e w' ⟨rfl, rfl⟩
  go_wp2_with fail
  go_ret
  exact ⟨rfl, rfl⟩
set_option maxHeartbeats 4000000 in
theorem rightP_any (x : Pr) (hx : x.ok) (w : World) : Calls Try.prog 5 #[.agg #[.bool x.e.a.v6, .int .u64 x.e.a.hi, .int .u64 x.e.a.lo, .int .i64 x.e.n, .bool x.i, .int .i64 x.t, .int .i64 x.c.p, .int .i64 x.c.a, .int .i64 x.g, .int .i64 x.k]] w fun e w' => e = .returned (.bool (rightP x)) ∧ Below w.heap.size w w' := by
  have E : Hid (rightP x = (rightE x.e && inR x.t 1099511627776 && inR x.c.a 1099511627776 && inR x.k 1099511627776 && inR x.c.p 1099511627776 && inR x.g 1048576)) := Lib.hid rfl
  have KE := Lib.hid (fun W => rightE_any x.e W hx.1)
  have K1 := Lib.hid (fun W => tick_any x.t W)
  have K2 := Lib.hid (fun W => tick_any x.c.a W)
  have K3 := Lib.hid (fun W => tick_any x.k W)
  have K4 := Lib.hid (fun W => within_any x.c.p 1099511627776 W)
  have K5 := Lib.hid (fun W => within_any x.g 1048576 W)
  generalize rightP x = r at *
  generalize rightE x.e = be at *
  generalize inR x.t 1099511627776 = b1 at *
  generalize inR x.c.a 1099511627776 = b2 at *
  generalize inR x.k 1099511627776 = b3 at *
  generalize inR x.c.p 1099511627776 = b4 at *
  generalize inR x.g 1048576 = b5 at *
  clear hx
  have O := Lib.hid (Blk.new w #[.bool x.e.a.v6, .int .u64 x.e.a.hi, .int .u64 x.e.a.lo, .int .i64 x.e.n, .bool x.i, .int .i64 x.t, .int .i64 x.c.p, .int .i64 x.c.a, .int .i64 x.g, .int .i64 x.k] 30)
  have L0 : Hid (Lows w (w.alloc (.cells #[.bool x.e.a.v6, .int .u64 x.e.a.hi, .int .u64 x.e.a.lo, .int .i64 x.e.n, .bool x.i, .int .i64 x.t, .int .i64 x.c.p, .int .i64 x.c.a, .int .i64 x.g, .int .i64 x.k] 30))) := Lib.hid (Lows.alloc (Lows.self w) _)
  go_enter Try.func5, Try.ntmps5
  go_wp2_with fail
  refine (K1.out _).mono ?_; rintro e w' ⟨rfl, rfl⟩
  cases b1
  · go_wp2_with fail
    refine (KE.out _).mono ?_; rintro e w1 ⟨rfl, hb1⟩
    have L1 := Lib.hid (low_trans L0.out hb1)
    clear hb1
    cases be
    · go_wp2_with fail
      go_ret
      exact ⟨ret_bool (by rw [E.out]; first | rfl | (simp; done)), L1.out⟩
    · go_wp2_with fail
      go_ret
      exact ⟨ret_bool (by rw [E.out]; first | rfl | (simp; done)), L1.out⟩
  · go_wp2_with fail
    refine (K2.out _).mono ?_; rintro e w' ⟨rfl, rfl⟩
    cases b2
    · go_wp2_with fail
      refine (KE.out _).mono ?_; rintro e w1 ⟨rfl, hb1⟩
      have L1 := Lib.hid (low_trans L0.out hb1)
      clear hb1
      cases be
      · go_wp2_with fail
        go_ret
        exact ⟨ret_bool (by rw [E.out]; first | rfl | (simp; done)), L1.out⟩
      · go_wp2_with fail
        go_ret
        exact ⟨ret_bool (by rw [E.out]; first | rfl | (simp; done)), L1.out⟩
    · go_wp2_with fail
      refine (K3.out _).mono ?_; rintro e w' ⟨rfl, rfl⟩
      cases b3
      · go_wp2_with fail
        refine (KE.out _).mono ?_; rintro e w1 ⟨rfl, hb1⟩
        have L1 := Lib.hid (low_trans L0.out hb1)
        clear hb1
        cases be
        · go_wp2_with fail
          go_ret
          exact ⟨ret_bool (by rw [E.out]; first | rfl | (simp; done)), L1.out⟩
        · go_wp2_with fail
          go_ret
          exact ⟨ret_bool (by rw [E.out]; first | rfl | (simp; done)), L1.out⟩
      · go_wp2_with fail
        refine (KE.out _).mono ?_; rintro e w1 ⟨rfl, hb1⟩
        have L1 := Lib.hid (low_trans L0.out hb1)
        have own := O.out.on hb1
        have s6 := own.cell (j := 6) rfl
        have s8 := own.cell (j := 8) rfl
        clear own
        clear hb1
        cases be
        · go_wp2_with fail
          go_ret
          exact ⟨ret_bool (by rw [E.out]; first | rfl | (simp; done)), L1.out⟩
        · go_wp2_with fail
          refine (K4.out _).mono ?_; rintro e w' ⟨rfl, rfl⟩
          cases b4
          · go_wp2_with fail
            go_ret
            exact ⟨ret_bool (by rw [E.out]; first | rfl | (simp; done)), L1.out⟩
          · go_wp2_with fail
            refine (K5.out _).mono ?_; rintro e w' ⟨rfl, rfl⟩
            go_wp2_with fail
            go_ret
            exact ⟨ret_bool (by rw [E.out]; first | rfl | (simp; done)), L1.out⟩
set_option maxHeartbeats 4000000 in
theorem newP_any (e : Endp) (i : Bool) (n : Int) (w : World) : Calls Try.prog 7 #[.agg #[.bool e.a.v6, .int .u64 e.a.hi, .int .u64 e.a.lo, .int .i64 e.n], .bool i, .int .i64 n] w fun r w' => r = .returned (.agg #[.bool (newP e i n).e.a.v6, .int .u64 (newP e i n).e.a.hi, .int .u64 (newP e i n).e.a.lo, .int .i64 (newP e i n).e.n, .bool (newP e i n).i, .int .i64 (newP e i n).t, .int .i64 (newP e i n).c.p, .int .i64 (newP e i n).c.a, .int .i64 (newP e i n).g, .int .i64 (newP e i n).k]) ∧ Below w.heap.size w w' := by
  show Calls Try.prog 7 #[.agg #[.bool e.a.v6, .int .u64 e.a.hi, .int .u64 e.a.lo, .int .i64 e.n], .bool i, .int .i64 n] w fun r w' => r = .returned (.agg #[.bool e.a.v6, .int .u64 e.a.hi, .int .u64 e.a.lo, .int .i64 e.n, .bool i, .int .i64 (fit n), .int .i64 0, .int .i64 (fit n), .int .i64 0, .int .i64 0]) ∧ Below w.heap.size w w'
  have F := Lib.hid (fun W => fit_any n W)
  generalize fit n = m at *
  have L0 : Hid (Lows w ((w.alloc (.cells #[.bool e.a.v6, .int .u64 e.a.hi, .int .u64 e.a.lo, .int .i64 e.n] 26)).alloc (.cells #[.bool false, .int .u64 0, .int .u64 0, .int .i64 0, .bool false, .int .i64 0, .int .i64 0, .int .i64 0, .int .i64 0, .int .i64 0] 30))) := Lib.hid (Lows.alloc (Lows.alloc (Lows.self w) _) _)
  go_enter Try.func7, Try.ntmps7
  go_wp2_with fail
  refine (F.out _).mono ?_; rintro r w' ⟨rfl, rfl⟩
  go_wp2_with fail
  exact bodyPost_ret (v := .agg #[.bool e.a.v6, .int .u64 e.a.hi, .int .u64 e.a.lo, .int .i64 e.n, .bool i, .int .i64 m, .int .i64 0, .int .i64 m, .int .i64 0, .int .i64 0]) (by simp [results, Try.results7, go_sem]) rfl ⟨rfl, by repeat (first | (with_reducible exact L0.out) | (with_reducible exact Lows.alloc (Lows.alloc (Lows.self _) _) _) | (with_reducible refine Below.setCell ?_ (by first | exact Nat.le_refl _ | exact Nat.le_succ _ | (simp; done) | (simp; omega)) _) | (refine low_drewN ?_ 1))⟩
set_option maxHeartbeats 4000000 in
theorem pong_any (x : Pr) (m : Int) (w : World) : Calls Try.prog 9 #[.agg #[.bool x.e.a.v6, .int .u64 x.e.a.hi, .int .u64 x.e.a.lo, .int .i64 x.e.n, .bool x.i, .int .i64 x.t, .int .i64 x.c.p, .int .i64 x.c.a, .int .i64 x.g, .int .i64 x.k], .int .i64 m] w fun e w' => e = .returned (.agg #[.bool (pongP x m).e.a.v6, .int .u64 (pongP x m).e.a.hi, .int .u64 (pongP x m).e.a.lo, .int .i64 (pongP x m).e.n, .bool (pongP x m).i, .int .i64 (pongP x m).t, .int .i64 (pongP x m).c.p, .int .i64 (pongP x m).c.a, .int .i64 (pongP x m).g, .int .i64 (pongP x m).k]) ∧ Below w.heap.size w w' := by
  show Calls Try.prog 9 #[.agg #[.bool x.e.a.v6, .int .u64 x.e.a.hi, .int .u64 x.e.a.lo, .int .i64 x.e.n, .bool x.i, .int .i64 x.t, .int .i64 x.c.p, .int .i64 x.c.a, .int .i64 x.g, .int .i64 x.k], .int .i64 m] w fun e w' => e = .returned (.agg #[.bool x.e.a.v6, .int .u64 x.e.a.hi, .int .u64 x.e.a.lo, .int .i64 x.e.n, .bool x.i, .int .i64 x.t, .int .i64 x.c.p, .int .i64 x.c.a, .int .i64 (pongG x.g m), .int .i64 x.k]) ∧ Below w.heap.size w w'
  have L0 : Hid (Lows w ((w.alloc (.cells #[.bool x.e.a.v6, .int .u64 x.e.a.hi, .int .u64 x.e.a.lo, .int .i64 x.e.n, .bool x.i, .int .i64 x.t, .int .i64 x.c.p, .int .i64 x.c.a, .int .i64 x.g, .int .i64 x.k] 30)).alloc (.cells #[.bool false, .int .u64 0, .int .u64 0, .int .i64 0, .bool false, .int .i64 0, .int .i64 0, .int .i64 0, .int .i64 0, .int .i64 0] 30))) := Lib.hid (Lows.alloc (Lows.alloc (Lows.self w) _) _)
  by_cases h1 : 1 ≤ m
  · by_cases h2 : m ≤ 1048576
    · by_cases h3 : x.g = 0
      · have E : pongG x.g m = m := by unfold pongG; first | rw [if_pos (by omega)] | rw [if_neg (by omega)]
        rw [E]
        clear E
        have h1b : ¬ m < 1 := by omega
        have h2b : ¬ 1048576 < m := by omega
        have hq : (x.g == 0) = true := by rw [beq_iff_eq]; exact h3
        have hq2 : (x.g != 0) = false := by rw [bne_eq_false_iff_eq]; exact h3
        clear h3
        go_enter Try.func9, Try.ntmps9
        go_wp2_with fail
        exact bodyPost_ret (v := .agg #[.bool x.e.a.v6, .int .u64 x.e.a.hi, .int .u64 x.e.a.lo, .int .i64 x.e.n, .bool x.i, .int .i64 x.t, .int .i64 x.c.p, .int .i64 x.c.a, .int .i64 m, .int .i64 x.k]) (by simp [results, Try.results9, go_sem]) rfl ⟨rfl, by repeat (first | (with_reducible exact L0.out) | (with_reducible exact Lows.alloc (Lows.alloc (Lows.self _) _) _) | (with_reducible refine Below.setCell ?_ (by first | exact Nat.le_refl _ | exact Nat.le_succ _ | (simp; done) | (simp; omega)) _) | (refine low_drewN ?_ 1))⟩
      · by_cases h4 : m < x.g
        · have E : pongG x.g m = m := by unfold pongG; first | rw [if_pos (by omega)] | rw [if_neg (by omega)]
          rw [E]
          clear E
          have h1b : ¬ m < 1 := by omega
          have h2b : ¬ 1048576 < m := by omega
          have h4b : ¬ x.g ≤ m := by omega
          have hq : (x.g == 0) = false := by rw [beq_eq_false_iff_ne]; exact h3
          have hq2 : (x.g != 0) = true := by rw [bne_iff_ne]; exact h3
          clear h3
          go_enter Try.func9, Try.ntmps9
          go_wp2_with fail
          exact bodyPost_ret (v := .agg #[.bool x.e.a.v6, .int .u64 x.e.a.hi, .int .u64 x.e.a.lo, .int .i64 x.e.n, .bool x.i, .int .i64 x.t, .int .i64 x.c.p, .int .i64 x.c.a, .int .i64 m, .int .i64 x.k]) (by simp [results, Try.results9, go_sem]) rfl ⟨rfl, by repeat (first | (with_reducible exact L0.out) | (with_reducible exact Lows.alloc (Lows.alloc (Lows.self _) _) _) | (with_reducible refine Below.setCell ?_ (by first | exact Nat.le_refl _ | exact Nat.le_succ _ | (simp; done) | (simp; omega)) _) | (refine low_drewN ?_ 1))⟩
        · have E : pongG x.g m = x.g := by unfold pongG; first | rw [if_pos (by omega)] | rw [if_neg (by omega)]
          rw [E]
          clear E
          have h1b : ¬ m < 1 := by omega
          have h2b : ¬ 1048576 < m := by omega
          have h4b : x.g ≤ m := by omega
          have hq : (x.g == 0) = false := by rw [beq_eq_false_iff_ne]; exact h3
          have hq2 : (x.g != 0) = true := by rw [bne_iff_ne]; exact h3
          clear h3
          go_enter Try.func9, Try.ntmps9
          go_wp2_with fail
          exact bodyPost_ret (v := .agg #[.bool x.e.a.v6, .int .u64 x.e.a.hi, .int .u64 x.e.a.lo, .int .i64 x.e.n, .bool x.i, .int .i64 x.t, .int .i64 x.c.p, .int .i64 x.c.a, .int .i64 x.g, .int .i64 x.k]) (by simp [results, Try.results9, go_sem]) rfl ⟨rfl, by repeat (first | (with_reducible exact L0.out) | (with_reducible exact Lows.alloc (Lows.alloc (Lows.self _) _) _) | (with_reducible refine Below.setCell ?_ (by first | exact Nat.le_refl _ | exact Nat.le_succ _ | (simp; done) | (simp; omega)) _) | (refine low_drewN ?_ 1))⟩
    · have E : pongG x.g m = x.g := by unfold pongG; first | rw [if_pos (by omega)] | rw [if_neg (by omega)]
      rw [E]
      clear E
      have h1b : ¬ m < 1 := by omega
      have h2b : 1048576 < m := by omega
      go_enter Try.func9, Try.ntmps9
      go_wp2_with fail
      exact bodyPost_ret (v := .agg #[.bool x.e.a.v6, .int .u64 x.e.a.hi, .int .u64 x.e.a.lo, .int .i64 x.e.n, .bool x.i, .int .i64 x.t, .int .i64 x.c.p, .int .i64 x.c.a, .int .i64 x.g, .int .i64 x.k]) (by simp [results, Try.results9, go_sem]) rfl ⟨rfl, by repeat (first | (with_reducible exact L0.out) | (with_reducible exact Lows.alloc (Lows.alloc (Lows.self _) _) _) | (with_reducible refine Below.setCell ?_ (by first | exact Nat.le_refl _ | exact Nat.le_succ _ | (simp; done) | (simp; omega)) _) | (refine low_drewN ?_ 1))⟩
  · have E : pongG x.g m = x.g := by unfold pongG; first | rw [if_pos (by omega)] | rw [if_neg (by omega)]
    rw [E]
    clear E
    have h1b : m < 1 := by omega
    go_enter Try.func9, Try.ntmps9
    go_wp2_with fail
    exact bodyPost_ret (v := .agg #[.bool x.e.a.v6, .int .u64 x.e.a.hi, .int .u64 x.e.a.lo, .int .i64 x.e.n, .bool x.i, .int .i64 x.t, .int .i64 x.c.p, .int .i64 x.c.a, .int .i64 x.g, .int .i64 x.k]) (by simp [results, Try.results9, go_sem]) rfl ⟨rfl, by repeat (first | (with_reducible exact L0.out) | (with_reducible exact Lows.alloc (Lows.alloc (Lows.self _) _) _) | (with_reducible refine Below.setCell ?_ (by first | exact Nat.le_refl _ | exact Nat.le_succ _ | (simp; done) | (simp; omega)) _) | (refine low_drewN ?_ 1))⟩
set_option maxHeartbeats 4000000 in
theorem worked_any (x : Pr) (n : Int) (w : World) : Calls Try.prog 11 #[.agg #[.bool x.e.a.v6, .int .u64 x.e.a.hi, .int .u64 x.e.a.lo, .int .i64 x.e.n, .bool x.i, .int .i64 x.t, .int .i64 x.c.p, .int .i64 x.c.a, .int .i64 x.g, .int .i64 x.k], .int .i64 n] w fun e w' => e = .returned (.agg #[.bool (workP x n).e.a.v6, .int .u64 (workP x n).e.a.hi, .int .u64 (workP x n).e.a.lo, .int .i64 (workP x n).e.n, .bool (workP x n).i, .int .i64 (workP x n).t, .int .i64 (workP x n).c.p, .int .i64 (workP x n).c.a, .int .i64 (workP x n).g, .int .i64 (workP x n).k]) ∧ Below w.heap.size w w' := by
  show Calls Try.prog 11 #[.agg #[.bool x.e.a.v6, .int .u64 x.e.a.hi, .int .u64 x.e.a.lo, .int .i64 x.e.n, .bool x.i, .int .i64 x.t, .int .i64 x.c.p, .int .i64 x.c.a, .int .i64 x.g, .int .i64 x.k], .int .i64 n] w fun e w' => e = .returned (.agg #[.bool x.e.a.v6, .int .u64 x.e.a.hi, .int .u64 x.e.a.lo, .int .i64 x.e.n, .bool x.i, .int .i64 x.t, .int .i64 x.c.p, .int .i64 x.c.a, .int .i64 x.g, .int .i64 (workK x.k n)]) ∧ Below w.heap.size w w'
  have F := Lib.hid (fun W => fit_any n W)
  obtain ⟨q, Q⟩ : ∃ q : Int, max x.k (fit n) = q := ⟨_, rfl⟩
  have E : workK x.k n = q := by rw [← Q]; unfold workK; split <;> omega
  rw [E]
  generalize fit n = m at *
  clear E
  have L0 : Hid (Lows w ((w.alloc (.cells #[.bool x.e.a.v6, .int .u64 x.e.a.hi, .int .u64 x.e.a.lo, .int .i64 x.e.n, .bool x.i, .int .i64 x.t, .int .i64 x.c.p, .int .i64 x.c.a, .int .i64 x.g, .int .i64 x.k] 30)).alloc (.cells #[.bool false, .int .u64 0, .int .u64 0, .int .i64 0, .bool false, .int .i64 0, .int .i64 0, .int .i64 0, .int .i64 0, .int .i64 0] 30))) := Lib.hid (Lows.alloc (Lows.alloc (Lows.self w) _) _)
  go_enter Try.func11, Try.ntmps11
  go_wp2_with fail
  first
    | (go_region_with (go_at_call 22; refine (F.out _).mono ?_; rintro e w9 ⟨rfl, rfl⟩))
    | fail
  all_goals
    go_wp2_with fail
    exact bodyPost_ret (v := .agg #[.bool x.e.a.v6, .int .u64 x.e.a.hi, .int .u64 x.e.a.lo, .int .i64 x.e.n, .bool x.i, .int .i64 x.t, .int .i64 x.c.p, .int .i64 x.c.a, .int .i64 x.g, .int .i64 q]) (by simp [results, Try.results11, go_sem]) rfl ⟨rfl, by repeat (first | (with_reducible exact L0.out) | (with_reducible exact Lows.alloc (Lows.alloc (Lows.self _) _) _) | (with_reducible refine Below.setCell ?_ (by first | exact Nat.le_refl _ | exact Nat.le_succ _ | (simp; done) | (simp; omega)) _) | (refine low_drewN ?_ 1))⟩
set_option maxHeartbeats 4000000 in
theorem blamed_any (x : Pr) (n h a : Int) (w : World) : Calls Try.prog 13 #[.agg #[.bool x.e.a.v6, .int .u64 x.e.a.hi, .int .u64 x.e.a.lo, .int .i64 x.e.n, .bool x.i, .int .i64 x.t, .int .i64 x.c.p, .int .i64 x.c.a, .int .i64 x.g, .int .i64 x.k], .int .i64 n, .int .i64 h, .int .i64 a] w fun e w' => e = .returned (.agg #[.bool (blameP x n h a).e.a.v6, .int .u64 (blameP x n h a).e.a.hi, .int .u64 (blameP x n h a).e.a.lo, .int .i64 (blameP x n h a).e.n, .bool (blameP x n h a).i, .int .i64 (blameP x n h a).t, .int .i64 (blameP x n h a).c.p, .int .i64 (blameP x n h a).c.a, .int .i64 (blameP x n h a).g, .int .i64 (blameP x n h a).k]) ∧ Below w.heap.size w w' := by
  show Calls Try.prog 13 #[.agg #[.bool x.e.a.v6, .int .u64 x.e.a.hi, .int .u64 x.e.a.lo, .int .i64 x.e.n, .bool x.i, .int .i64 x.t, .int .i64 x.c.p, .int .i64 x.c.a, .int .i64 x.g, .int .i64 x.k], .int .i64 n, .int .i64 h, .int .i64 a] w fun e w' => e = .returned (.agg #[.bool x.e.a.v6, .int .u64 x.e.a.hi, .int .u64 x.e.a.lo, .int .i64 x.e.n, .bool x.i, .int .i64 x.t, .int .i64 (addS x.c n h a).p, .int .i64 (addS x.c n h a).a, .int .i64 x.g, .int .i64 x.k]) ∧ Below w.heap.size w w'
  have D := Lib.hid (fun W => addS_any x.c n h a W)
  generalize addS x.c n h a = d at *
  have L0 : Hid (Lows w ((w.alloc (.cells #[.bool x.e.a.v6, .int .u64 x.e.a.hi, .int .u64 x.e.a.lo, .int .i64 x.e.n, .bool x.i, .int .i64 x.t, .int .i64 x.c.p, .int .i64 x.c.a, .int .i64 x.g, .int .i64 x.k] 30)).alloc (.cells #[.bool false, .int .u64 0, .int .u64 0, .int .i64 0, .bool false, .int .i64 0, .int .i64 0, .int .i64 0, .int .i64 0, .int .i64 0] 30))) := Lib.hid (Lows.alloc (Lows.alloc (Lows.self w) _) _)
  have O1 := Lib.hid ((Blk.new w #[.bool x.e.a.v6, .int .u64 x.e.a.hi, .int .u64 x.e.a.lo, .int .i64 x.e.n, .bool x.i, .int .i64 x.t, .int .i64 x.c.p, .int .i64 x.c.a, .int .i64 x.g, .int .i64 x.k] 30).alloc (.cells #[.bool false, .int .u64 0, .int .u64 0, .int .i64 0, .bool false, .int .i64 0, .int .i64 0, .int .i64 0, .int .i64 0, .int .i64 0] 30))
  have O2 := Lib.hid (Blk.two w (.cells #[.bool x.e.a.v6, .int .u64 x.e.a.hi, .int .u64 x.e.a.lo, .int .i64 x.e.n, .bool x.i, .int .i64 x.t, .int .i64 x.c.p, .int .i64 x.c.a, .int .i64 x.g, .int .i64 x.k] 30) #[.bool false, .int .u64 0, .int .u64 0, .int .i64 0, .bool false, .int .i64 0, .int .i64 0, .int .i64 0, .int .i64 0, .int .i64 0] 30)
  go_enter Try.func13, Try.ntmps13
  go_wp2_with fail
  refine (D.out _).mono ?_
  rintro e w1 ⟨rfl, hb1⟩
  have L1 := Lib.hid (low_trans L0.out hb1)
  have own1 := O1.out.on hb1
  have own2 := O2.out.on hb1
  have s0 := own1.cell (j := 0) rfl
  have f0 := own1.free 0
  have t0 := own2.cell (j := 0) rfl
  have g0 := own2.free 0
  have s1 := own1.cell (j := 1) rfl
  have f1 := own1.free 1
  have t1 := own2.cell (j := 1) rfl
  have g1 := own2.free 1
  have s2 := own1.cell (j := 2) rfl
  have f2 := own1.free 2
  have t2 := own2.cell (j := 2) rfl
  have g2 := own2.free 2
  have s3 := own1.cell (j := 3) rfl
  have f3 := own1.free 3
  have t3 := own2.cell (j := 3) rfl
  have g3 := own2.free 3
  have s4 := own1.cell (j := 4) rfl
  have f4 := own1.free 4
  have t4 := own2.cell (j := 4) rfl
  have g4 := own2.free 4
  have s5 := own1.cell (j := 5) rfl
  have f5 := own1.free 5
  have t5 := own2.cell (j := 5) rfl
  have g5 := own2.free 5
  have s6 := own1.cell (j := 6) rfl
  have f6 := own1.free 6
  have t6 := own2.cell (j := 6) rfl
  have g6 := own2.free 6
  have s7 := own1.cell (j := 7) rfl
  have f7 := own1.free 7
  have t7 := own2.cell (j := 7) rfl
  have g7 := own2.free 7
  have s8 := own1.cell (j := 8) rfl
  have f8 := own1.free 8
  have t8 := own2.cell (j := 8) rfl
  have g8 := own2.free 8
  have s9 := own1.cell (j := 9) rfl
  have f9 := own1.free 9
  have t9 := own2.cell (j := 9) rfl
  have g9 := own2.free 9
  clear hb1 D O1 O2 own1 own2
  go_wp2_with fail
  exact bodyPost_ret (v := .agg #[.bool x.e.a.v6, .int .u64 x.e.a.hi, .int .u64 x.e.a.lo, .int .i64 x.e.n, .bool x.i, .int .i64 x.t, .int .i64 d.p, .int .i64 d.a, .int .i64 x.g, .int .i64 x.k]) (by simp [results, Try.results13, go_sem, t0, t1, t2, t3, t4, t5, t6, t7, t8, t9]) rfl ⟨rfl, by repeat (first | (with_reducible exact L1.out) | (with_reducible exact Lows.alloc (Lows.alloc (Lows.self _) _) _) | (with_reducible refine Below.setCell ?_ (by first | exact Nat.le_refl _ | exact Nat.le_succ _ | (simp; done) | (simp; omega)) _) | (refine low_drewN ?_ 1))⟩
set_option maxHeartbeats 8000000 in
theorem textP_any (x : Pr) (hx : x.ok) (w : World) : Calls Try.prog 15 #[.agg #[.bool x.e.a.v6, .int .u64 x.e.a.hi, .int .u64 x.e.a.lo, .int .i64 x.e.n, .bool x.i, .int .i64 x.t, .int .i64 x.c.p, .int .i64 x.c.a, .int .i64 x.g, .int .i64 x.k]] w fun e w' => e = .returned (.string ⟨(textP x).toArray⟩) ∧ Below w.heap.size w w' := by
  have C1 := Lib.hid (fun W => textE_any x.e W hx.1)
  have C2 := Lib.hid (fun W => text_any x.t W hx.2.1.1 hx.2.1.2)
  have C3 := Lib.hid (fun W => whole_any x.c hx.2.2.1 W)
  have C4 := Lib.hid (fun W => text_any (wholeS x.c) W (whole_bd hx.2.2.1).1 (whole_bd hx.2.2.1).2)
  have C5 := Lib.hid (fun W => text_any x.g W hx.2.2.2.1.1 hx.2.2.2.1.2)
  have C6 := Lib.hid (fun W => text_any x.k W hx.2.2.2.2.1 hx.2.2.2.2.2)
  have hL := textP_len hx
  have C7 : Hid (∀ W : World, Calls Try.prog 28 #[.slice (some ⟨W.heap.size, 0, none⟩) 10 10] (W.alloc (.cells #[.string ⟨(wayP x.i).toArray⟩, .string ⟨(textE x.e).toArray⟩, .string ⟨([115, 105, 110, 99, 101]).toArray⟩, .string ⟨(text x.t).toArray⟩, .string ⟨([112, 111, 105, 110, 116, 115]).toArray⟩, .string ⟨(text (wholeS x.c)).toArray⟩, .string ⟨([112, 105, 110, 103]).toArray⟩, .string ⟨(text x.g).toArray⟩, .string ⟨([119, 111, 114, 107]).toArray⟩, .string ⟨(text x.k).toArray⟩] 9)) fun e w' => e = .returned (.string ⟨(textP x).toArray⟩) ∧ Below (W.alloc (.cells #[.string ⟨(wayP x.i).toArray⟩, .string ⟨(textE x.e).toArray⟩, .string ⟨([115, 105, 110, 99, 101]).toArray⟩, .string ⟨(text x.t).toArray⟩, .string ⟨([112, 111, 105, 110, 116, 115]).toArray⟩, .string ⟨(text (wholeS x.c)).toArray⟩, .string ⟨([112, 105, 110, 103]).toArray⟩, .string ⟨(text x.g).toArray⟩, .string ⟨([119, 111, 114, 107]).toArray⟩, .string ⟨(text x.k).toArray⟩] 9)).heap.size (W.alloc (.cells #[.string ⟨(wayP x.i).toArray⟩, .string ⟨(textE x.e).toArray⟩, .string ⟨([115, 105, 110, 99, 101]).toArray⟩, .string ⟨(text x.t).toArray⟩, .string ⟨([112, 111, 105, 110, 116, 115]).toArray⟩, .string ⟨(text (wholeS x.c)).toArray⟩, .string ⟨([112, 105, 110, 103]).toArray⟩, .string ⟨(text x.g).toArray⟩, .string ⟨([119, 111, 114, 107]).toArray⟩, .string ⟨(text x.k).toArray⟩] 9)) w') := Lib.hid fun W => row_any _ (wordsP x) _ (Txts.lit W (wordsP x) _ _ rfl) (by show (10 : Nat) ≤ _; decide) (by have : (glue 32 (wordsP x)).length ≤ 400 := hL; omega)
  generalize textP x = R at *
  generalize textE x.e = T at *
  generalize text x.t = A1 at *
  generalize text (wholeS x.c) = A2 at *
  generalize text x.g = A3 at *
  generalize text x.k = A4 at *
  generalize wholeS x.c = pt at *
  have O := Lib.hid (Blk.new w #[.bool x.e.a.v6, .int .u64 x.e.a.hi, .int .u64 x.e.a.lo, .int .i64 x.e.n, .bool x.i, .int .i64 x.t, .int .i64 x.c.p, .int .i64 x.c.a, .int .i64 x.g, .int .i64 x.k] 30)
  have L0 : Hid (Lows w (w.alloc (.cells #[.bool x.e.a.v6, .int .u64 x.e.a.hi, .int .u64 x.e.a.lo, .int .i64 x.e.n, .bool x.i, .int .i64 x.t, .int .i64 x.c.p, .int .i64 x.c.a, .int .i64 x.g, .int .i64 x.k] 30))) := Lib.hid (Lows.alloc (Lows.self w) _)
  have hi := O.out.cell (j := 4) rfl
  clear hx hL
  obtain ⟨bi, hbi⟩ : ∃ b, x.i = b := ⟨_, rfl⟩
  rw [hbi] at C7 hi O L0 ⊢
  clear hbi
  have C8 : Hid (∀ W : World, Calls Try.prog 28 #[.slice (some ⟨W.heap.size, 0, none⟩) 10 10] (W.alloc (.cells #[.string ⟨(wayP bi).toArray⟩, .string ⟨(T).toArray⟩, .string ⟨([115, 105, 110, 99, 101]).toArray⟩, .string ⟨(A1).toArray⟩, .string ⟨([112, 111, 105, 110, 116, 115]).toArray⟩, .string ⟨(A2).toArray⟩, .string ⟨([112, 105, 110, 103]).toArray⟩, .string ⟨(A3).toArray⟩, .string ⟨([119, 111, 114, 107]).toArray⟩, .string ⟨(A4).toArray⟩] 9)) fun e w' => e = .returned (.string ⟨R.toArray⟩) ∧ Below (W.alloc (.cells #[.string ⟨(wayP bi).toArray⟩, .string ⟨(T).toArray⟩, .string ⟨([115, 105, 110, 99, 101]).toArray⟩, .string ⟨(A1).toArray⟩, .string ⟨([112, 111, 105, 110, 116, 115]).toArray⟩, .string ⟨(A2).toArray⟩, .string ⟨([112, 105, 110, 103]).toArray⟩, .string ⟨(A3).toArray⟩, .string ⟨([119, 111, 114, 107]).toArray⟩, .string ⟨(A4).toArray⟩] 9)).heap.size (W.alloc (.cells #[.string ⟨(wayP bi).toArray⟩, .string ⟨(T).toArray⟩, .string ⟨([115, 105, 110, 99, 101]).toArray⟩, .string ⟨(A1).toArray⟩, .string ⟨([112, 111, 105, 110, 116, 115]).toArray⟩, .string ⟨(A2).toArray⟩, .string ⟨([112, 105, 110, 103]).toArray⟩, .string ⟨(A3).toArray⟩, .string ⟨([119, 111, 114, 107]).toArray⟩, .string ⟨(A4).toArray⟩] 9)) w') := C7
  clear C7 hi
  cases bi
  · have C9 : Hid (∀ W : World, Calls Try.prog 28 #[.slice (some ⟨W.heap.size, 0, none⟩) 10 10] (W.alloc (.cells #[.string ⟨#[111, 117, 116]⟩, .string ⟨T.toArray⟩, .string ⟨#[115, 105, 110, 99, 101]⟩, .string ⟨A1.toArray⟩, .string ⟨#[112, 111, 105, 110, 116, 115]⟩, .string ⟨A2.toArray⟩, .string ⟨#[112, 105, 110, 103]⟩, .string ⟨A3.toArray⟩, .string ⟨#[119, 111, 114, 107]⟩, .string ⟨A4.toArray⟩] 9)) fun e w' => e = .returned (.string ⟨R.toArray⟩) ∧ Below (W.alloc (.cells #[.string ⟨#[111, 117, 116]⟩, .string ⟨T.toArray⟩, .string ⟨#[115, 105, 110, 99, 101]⟩, .string ⟨A1.toArray⟩, .string ⟨#[112, 111, 105, 110, 116, 115]⟩, .string ⟨A2.toArray⟩, .string ⟨#[112, 105, 110, 103]⟩, .string ⟨A3.toArray⟩, .string ⟨#[119, 111, 114, 107]⟩, .string ⟨A4.toArray⟩] 9)).heap.size (W.alloc (.cells #[.string ⟨#[111, 117, 116]⟩, .string ⟨T.toArray⟩, .string ⟨#[115, 105, 110, 99, 101]⟩, .string ⟨A1.toArray⟩, .string ⟨#[112, 111, 105, 110, 116, 115]⟩, .string ⟨A2.toArray⟩, .string ⟨#[112, 105, 110, 103]⟩, .string ⟨A3.toArray⟩, .string ⟨#[119, 111, 114, 107]⟩, .string ⟨A4.toArray⟩] 9)) w') := C8
    clear C8
    go_enter Try.func15, Try.ntmps15
    go_wp2_with fail
    refine (C3.out _).mono ?_; rintro e w1 ⟨rfl, hb1⟩
    have O1 := Lib.hid (O.out.on hb1)
    have L1 := Lib.hid (low_trans L0.out hb1)
    clear hb1
    go_wp2_with fail
    refine (C4.out _).mono ?_; rintro e w2 ⟨rfl, hb2⟩
    have O2 := Lib.hid (O1.out.on hb2)
    have L2 := Lib.hid (low_trans L1.out hb2)
    clear hb2 O1 L1 O L0 C3 C4
    go_wp2_with fail
    have hne : Nonempty (Cls (Lows w2)) := ⟨⟨_, Lows.self _⟩⟩
    have f0 : ∀ nq : Cls (Lows w2), nq.w.cell? ⟨w.heap.size, 0, none⟩ = some (.bool x.e.a.v6) := fun nq => Blk.in O2 nq.h rfl
    have f1 : ∀ nq : Cls (Lows w2), nq.w.cell? ⟨w.heap.size, 1, none⟩ = some (.int .u64 x.e.a.hi) := fun nq => Blk.in O2 nq.h rfl
    have f2 : ∀ nq : Cls (Lows w2), nq.w.cell? ⟨w.heap.size, 2, none⟩ = some (.int .u64 x.e.a.lo) := fun nq => Blk.in O2 nq.h rfl
    have f3 : ∀ nq : Cls (Lows w2), nq.w.cell? ⟨w.heap.size, 3, none⟩ = some (.int .i64 x.e.n) := fun nq => Blk.in O2 nq.h rfl
    have f4 : ∀ nq : Cls (Lows w2), nq.w.cell? ⟨w.heap.size, 5, none⟩ = some (.int .i64 x.t) := fun nq => Blk.in O2 nq.h rfl
    have f5 : ∀ nq : Cls (Lows w2), nq.w.cell? ⟨w.heap.size, 8, none⟩ = some (.int .i64 x.g) := fun nq => Blk.in O2 nq.h rfl
    have f6 : ∀ nq : Cls (Lows w2), nq.w.cell? ⟨w.heap.size, 9, none⟩ = some (.int .i64 x.k) := fun nq => Blk.in O2 nq.h rfl
    refine Cls.tail (Lows w2) 14 (by kernel_rfl) (by kernel_rfl) (low_drewN (Below.refl _ _) 1) ?_
    simp only [List.take_succ_cons, List.take_zero, List.drop_succ_cons, List.drop_zero]
    repeat (go_big_quiet_step (first | fail | (with_reducible exact Cls.call ((lows_call C1).out _ (Cls.h _))) | (with_reducible exact Cls.call ((lows_call C2).out _ (Cls.h _))) | (with_reducible exact Cls.call ((lows_call C5).out _ (Cls.h _))) | (with_reducible exact Cls.call ((lows_call C6).out _ (Cls.h _)))))
    refine wpQuiet_nil ?_
    intro n9
    have hk9 := n9.h
    generalize n9.w = w9 at hk9 ⊢
    clear hne n9 f0 f1 f2 f3 f4 f5 f6 C1 C2 C5 C6
    go_wp2_with fail
    refine (C9.out _).mono ?_; rintro e w10 ⟨rfl, hb10⟩
    have L9 := Lib.hid (low_trans L2.out (low_trans (Lows.alloc hk9 _) hb10))
    go_wp2_with fail
    go_ret
    exact ⟨rfl, L9.out⟩
  · have C9 : Hid (∀ W : World, Calls Try.prog 28 #[.slice (some ⟨W.heap.size, 0, none⟩) 10 10] (W.alloc (.cells #[.string ⟨#[105, 110]⟩, .string ⟨T.toArray⟩, .string ⟨#[115, 105, 110, 99, 101]⟩, .string ⟨A1.toArray⟩, .string ⟨#[112, 111, 105, 110, 116, 115]⟩, .string ⟨A2.toArray⟩, .string ⟨#[112, 105, 110, 103]⟩, .string ⟨A3.toArray⟩, .string ⟨#[119, 111, 114, 107]⟩, .string ⟨A4.toArray⟩] 9)) fun e w' => e = .returned (.string ⟨R.toArray⟩) ∧ Below (W.alloc (.cells #[.string ⟨#[105, 110]⟩, .string ⟨T.toArray⟩, .string ⟨#[115, 105, 110, 99, 101]⟩, .string ⟨A1.toArray⟩, .string ⟨#[112, 111, 105, 110, 116, 115]⟩, .string ⟨A2.toArray⟩, .string ⟨#[112, 105, 110, 103]⟩, .string ⟨A3.toArray⟩, .string ⟨#[119, 111, 114, 107]⟩, .string ⟨A4.toArray⟩] 9)).heap.size (W.alloc (.cells #[.string ⟨#[105, 110]⟩, .string ⟨T.toArray⟩, .string ⟨#[115, 105, 110, 99, 101]⟩, .string ⟨A1.toArray⟩, .string ⟨#[112, 111, 105, 110, 116, 115]⟩, .string ⟨A2.toArray⟩, .string ⟨#[112, 105, 110, 103]⟩, .string ⟨A3.toArray⟩, .string ⟨#[119, 111, 114, 107]⟩, .string ⟨A4.toArray⟩] 9)) w') := C8
    clear C8
    go_enter Try.func15, Try.ntmps15
    go_wp2_with fail
    refine (C3.out _).mono ?_; rintro e w1 ⟨rfl, hb1⟩
    have O1 := Lib.hid (O.out.on hb1)
    have L1 := Lib.hid (low_trans L0.out hb1)
    clear hb1
    go_wp2_with fail
    refine (C4.out _).mono ?_; rintro e w2 ⟨rfl, hb2⟩
    have O2 := Lib.hid (O1.out.on hb2)
    have L2 := Lib.hid (low_trans L1.out hb2)
    clear hb2 O1 L1 O L0 C3 C4
    go_wp2_with fail
    have hne : Nonempty (Cls (Lows w2)) := ⟨⟨_, Lows.self _⟩⟩
    have f0 : ∀ nq : Cls (Lows w2), nq.w.cell? ⟨w.heap.size, 0, none⟩ = some (.bool x.e.a.v6) := fun nq => Blk.in O2 nq.h rfl
    have f1 : ∀ nq : Cls (Lows w2), nq.w.cell? ⟨w.heap.size, 1, none⟩ = some (.int .u64 x.e.a.hi) := fun nq => Blk.in O2 nq.h rfl
    have f2 : ∀ nq : Cls (Lows w2), nq.w.cell? ⟨w.heap.size, 2, none⟩ = some (.int .u64 x.e.a.lo) := fun nq => Blk.in O2 nq.h rfl
    have f3 : ∀ nq : Cls (Lows w2), nq.w.cell? ⟨w.heap.size, 3, none⟩ = some (.int .i64 x.e.n) := fun nq => Blk.in O2 nq.h rfl
    have f4 : ∀ nq : Cls (Lows w2), nq.w.cell? ⟨w.heap.size, 5, none⟩ = some (.int .i64 x.t) := fun nq => Blk.in O2 nq.h rfl
    have f5 : ∀ nq : Cls (Lows w2), nq.w.cell? ⟨w.heap.size, 8, none⟩ = some (.int .i64 x.g) := fun nq => Blk.in O2 nq.h rfl
    have f6 : ∀ nq : Cls (Lows w2), nq.w.cell? ⟨w.heap.size, 9, none⟩ = some (.int .i64 x.k) := fun nq => Blk.in O2 nq.h rfl
    refine Cls.tail (Lows w2) 14 (by kernel_rfl) (by kernel_rfl) (low_drewN (Below.refl _ _) 1) ?_
    simp only [List.take_succ_cons, List.take_zero, List.drop_succ_cons, List.drop_zero]
    repeat (go_big_quiet_step (first | fail | (with_reducible exact Cls.call ((lows_call C1).out _ (Cls.h _))) | (with_reducible exact Cls.call ((lows_call C2).out _ (Cls.h _))) | (with_reducible exact Cls.call ((lows_call C5).out _ (Cls.h _))) | (with_reducible exact Cls.call ((lows_call C6).out _ (Cls.h _)))))
    refine wpQuiet_nil ?_
    intro n9
    have hk9 := n9.h
    generalize n9.w = w9 at hk9 ⊢
    clear hne n9 f0 f1 f2 f3 f4 f5 f6 C1 C2 C5 C6
    go_wp2_with fail
    refine (C9.out _).mono ?_; rintro e w10 ⟨rfl, hb10⟩
    have L9 := Lib.hid (low_trans L2.out (low_trans (Lows.alloc hk9 _) hb10))
    go_wp2_with fail
    go_ret
    exact ⟨rfl, L9.out⟩
end Go.Proofs.Ytdlbhcakfciagaa.Pe
