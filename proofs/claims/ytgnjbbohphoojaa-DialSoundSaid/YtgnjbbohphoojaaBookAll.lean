/- Package entry and the answers of its document, layer 25: the mathematics, the contracts. -/
import Derived.Test.YtgnjbbohphoojaaBackoff
import Derived.Test.YtgnjbbohphoojaaRef09All
import Derived.Test.YtgnjbbohphoojaaBox
import Derived.Test.YtgnjbbohphoojaaKit
import Derived.Lib.MinMax
import Derived.Test.YtgnjbbohphoojaaEndpDoor
import Derived.Test.YtgnjbbohphoojaaRecsDoor
import Derived.Test.YtgnjbbohphoojaaDoor
import Derived.Test.YtgnjbbohphoojaaBlk
import Derived.Deep.CutRange
import Derived.Deep.DeepCutAuto
import Derived.Laws.AppendOwn
import Derived.Laws.Cover3
import Derived.Deep.RegionHeld3
namespace Go.Proofs.Ytgnjbbohphoojaa.Et
set_option maxRecDepth 100000
open Go.ChangeShapes Go.WideShapes Go.ChangeAt Go.RowKit
open Ad Ci En Sat Bk
set_option linter.unusedVariables false
/-- An entry of the book: its end, its state, how often dialling failed, from when on it may be dialled. -/
structure Ey where
  e : Endp
  st : Int
  f : Int
  nx : Int
structure Ey.ok (y : Ey) : Prop where
  he : y.e.ok
  hst : i64B y.st
  hf : i64B y.f
  hnx : i64B y.nx
def encY (y : Ey) : List Value := [.bool y.e.a.v6, .int .u64 y.e.a.hi, .int .u64 y.e.a.lo, .int .i64 y.e.n, .int .i64 y.st, .int .i64 y.f, .int .i64 y.nx]
theorem encY_len (y : Ey) : (encY y).length = 7 := rfl
def inB (n a b : Int) : Bool := decide (a ≤ n) && decide (n ≤ b)
theorem inB_iff (n a b : Int) : inB n a b = true ↔ a ≤ n ∧ n ≤ b := by unfold inB; simp
def rightY (y : Ey) : Bool := rightE y.e && inB y.st 1 3 && inB y.f 0 1000 && inB y.nx 0 1099511627776
theorem rightY_iff (y : Ey) : rightY y = true ↔ rightE y.e = true ∧ (1 ≤ y.st ∧ y.st ≤ 3) ∧ (0 ≤ y.f ∧ y.f ≤ 1000) ∧ (0 ≤ y.nx ∧ y.nx ≤ 1099511627776) := by
  unfold rightY; simp only [Bool.and_eq_true, inB_iff, and_assoc]
def newY (e : Endp) (n : Int) : Ey := ⟨e, 1, 0, fit n⟩
def dueY (y : Ey) (n : Int) : Bool := y.st == 1 && decide (y.nx ≤ n)
def stateY (y : Ey) (s : Int) : Ey := ⟨y.e, s, y.f, y.nx⟩
def goodY (y : Ey) : Ey := ⟨y.e, 3, 0, y.nx⟩
def moreF (f : Int) : Int := min (max f 0) 999 + 1
def failY (c : Cf) (y : Ey) (n j : Int) : Ey := ⟨y.e, 1, moreF y.f, nextR c (moreF y.f) n j⟩
theorem more_bd (f : Int) : 1 ≤ moreF f ∧ moreF f ≤ 1000 := by unfold moreF; omega
theorem more_right {f : Int} (h : 0 ≤ f ∧ f ≤ 1000) : moreF f = min (f + 1) 1000 := by unfold moreF; omega
theorem next_bd (c : Cf) (f n j : Int) : 0 ≤ nextR c f n j ∧ nextR c f n j ≤ 1099511627776 := add_bd _ _
theorem new_right {e : Endp} (h : rightE e = true) (n : Int) : rightY (newY e n) = true := (rightY_iff _).2 ⟨h, by show (1 : Int) ≤ 1 ∧ (1 : Int) ≤ 3; decide, by show (0 : Int) ≤ 0 ∧ (0 : Int) ≤ 1000; decide, fit_bd n⟩
theorem state_right {y : Ey} (h : rightY y = true) {s : Int} (hs : 1 ≤ s ∧ s ≤ 3) : rightY (stateY y s) = true := by
  have k := (rightY_iff _).1 h
  exact (rightY_iff _).2 ⟨k.1, hs, k.2.2.1, k.2.2.2⟩
theorem good_right {y : Ey} (h : rightY y = true) : rightY (goodY y) = true := by
  have k := (rightY_iff _).1 h
  exact (rightY_iff _).2 ⟨k.1, by show (1 : Int) ≤ 3 ∧ (3 : Int) ≤ 3; decide, by show (0 : Int) ≤ 0 ∧ (0 : Int) ≤ 1000; decide, k.2.2.2⟩
theorem fail_right {y : Ey} (h : rightY y = true) (c : Cf) (n j : Int) : rightY (failY c y n j) = true := by
  have k := (rightY_iff _).1 h
  have m := more_bd y.f
  exact (rightY_iff _).2 ⟨k.1, by show (1 : Int) ≤ 1 ∧ (1 : Int) ≤ 3; decide, ⟨by show 0 ≤ moreF y.f; omega, m.2⟩, next_bd _ _ _ _⟩
theorem right_ok {y : Ey} (he : y.e.ok) (h : rightY y = true) : y.ok := by
  have k := (rightY_iff _).1 h
  refine ⟨he, ?_, ?_, ?_⟩ <;> unfold i64B <;> omega
theorem fail_due (c : Cf) (y : Ey) (n j : Int) : dueY (failY c y n j) (nextR c (moreF y.f) n j - 1) = false ∧ dueY (failY c y n j) (nextR c (moreF y.f) n j) = true := by
  unfold dueY failY
  constructor
  · simp; omega
  · simp
theorem withinY_any (n a b : Int) (w : World) : Calls Try.prog 35 #[.int .i64 n, .int .i64 a, .int .i64 b] w fun e w' => e = .returned (.bool (inB n a b)) ∧ w = w' := by
  by_cases h : a ≤ n
  · have E : inB n a b = decide (n ≤ b) := by unfold inB; simp [h]
    rw [E]
    go_enter Try.func35, Try.ntmps35
    go_wp2
    go_ret
    exact ⟨rfl, rfl⟩
  · have E : inB n a b = false := by unfold inB; simp [h]
    rw [E]
    go_enter Try.func35, Try.ntmps35
    go_wp2
    go_ret
    exact ⟨rfl, rfl⟩
set_option maxHeartbeats 4000000 in
theorem rightY_any (y : Ey) (hy : y.ok) (w : World) : Calls Try.prog 24 #[.agg #[.bool y.e.a.v6, .int .u64 y.e.a.hi, .int .u64 y.e.a.lo, .int .i64 y.e.n, .int .i64 y.st, .int .i64 y.f, .int .i64 y.nx]] w fun e w' => e = .returned (.bool (rightY y)) ∧ Below w.heap.size w w' := by
  have L0 : Hid (Below w.heap.size w (w.alloc (.cells #[.bool y.e.a.v6, .int .u64 y.e.a.hi, .int .u64 y.e.a.lo, .int .i64 y.e.n, .int .i64 y.st, .int .i64 y.f, .int .i64 y.nx] 37))) := Lib.hid (Lows.alloc (Lows.self w) _)
  have OB := Lib.hid (Blk.new w #[.bool y.e.a.v6, .int .u64 y.e.a.hi, .int .u64 y.e.a.lo, .int .i64 y.e.n, .int .i64 y.st, .int .i64 y.f, .int .i64 y.nx] 37)
  have E : Hid (rightY y = (rightE y.e && inB y.st 1 3 && inB y.f 0 1000 && inB y.nx 0 1099511627776)) := Lib.hid rfl
  have KE := Lib.hid (fun W => rightE_any y.e W hy.he)
  have K1 := Lib.hid (fun W => withinY_any y.st 1 3 W)
  have K2 := Lib.hid (fun W => withinY_any y.f 0 1000 W)
  have K3 := Lib.hid (fun W => withinY_any y.nx 0 1099511627776 W)
  generalize rightY y = r at *
  generalize rightE y.e = be at *
  generalize inB y.st 1 3 = b1 at *
  generalize inB y.f 0 1000 = b2 at *
  generalize inB y.nx 0 1099511627776 = b3 at *
  clear hy
  go_enter Try.func24, Try.ntmps24
  go_wp2_with fail
  refine (KE.out _).mono ?_; rintro e w1 ⟨rfl, hb1⟩
  have L1 := Lib.hid (low_trans L0.out hb1)
  have own := OB.out.on hb1
  have s4 := own.cell (j := 4) rfl
  have s5 := own.cell (j := 5) rfl
  have s6 := own.cell (j := 6) rfl
  clear own hb1
  cases be
  · go_wp2_with fail
    go_ret
    exact ⟨ret_b (by rw [E.out]; first | rfl | (simp; done)), L1.out⟩
  · go_wp2_with fail
    refine (K1.out _).mono ?_; rintro e w' ⟨rfl, rfl⟩
    cases b1
    · go_wp2_with fail
      go_ret
      exact ⟨ret_b (by rw [E.out]; first | rfl | (simp; done)), L1.out⟩
    · go_wp2_with fail
      refine (K2.out _).mono ?_; rintro e w' ⟨rfl, rfl⟩
      cases b2
      · go_wp2_with fail
        go_ret
        exact ⟨ret_b (by rw [E.out]; first | rfl | (simp; done)), L1.out⟩
      · go_wp2_with fail
        refine (K3.out _).mono ?_; rintro e w' ⟨rfl, rfl⟩
        go_wp2_with fail
        go_ret
        exact ⟨ret_b (by rw [E.out]; first | rfl | (simp; done)), L1.out⟩
set_option maxHeartbeats 4000000 in
theorem rrightY_any (y : Ey) (hy : y.ok) (w : World) : Calls Try.prog 7 #[.agg #[.bool y.e.a.v6, .int .u64 y.e.a.hi, .int .u64 y.e.a.lo, .int .i64 y.e.n, .int .i64 y.st, .int .i64 y.f, .int .i64 y.nx]] w fun e w' => e = .returned (.bool (rightY y)) ∧ Below w.heap.size w w' := by
  have L0 : Hid (Below w.heap.size w (w.alloc (.cells #[.bool y.e.a.v6, .int .u64 y.e.a.hi, .int .u64 y.e.a.lo, .int .i64 y.e.n, .int .i64 y.st, .int .i64 y.f, .int .i64 y.nx] 37))) := Lib.hid (Lows.alloc (Lows.self w) _)
  have OB := Lib.hid (Blk.new w #[.bool y.e.a.v6, .int .u64 y.e.a.hi, .int .u64 y.e.a.lo, .int .i64 y.e.n, .int .i64 y.st, .int .i64 y.f, .int .i64 y.nx] 37)
  have E : Hid (rightY y = (rightE y.e && inB y.st 1 3 && inB y.f 0 1000 && inB y.nx 0 1099511627776)) := Lib.hid rfl
  have KE := Lib.hid (fun W => rrightE_any y.e W hy.he)
  generalize rightY y = r at *
  generalize rightE y.e = be at *
  clear hy
  go_enter Try.func7, Try.ntmps7
  go_wp2_with fail
  refine (KE.out _).mono ?_; rintro e w1 ⟨rfl, hb1⟩
  have L1 := Lib.hid (low_trans L0.out hb1)
  have own := OB.out.on hb1
  have s4 := own.cell (j := 4) rfl
  have s5 := own.cell (j := 5) rfl
  have s6 := own.cell (j := 6) rfl
  clear own hb1
  cases be
  · go_wp2_with fail
    go_ret
    exact ⟨ret_b (by rw [E.out]; first | rfl | (simp; done)), L1.out⟩
  · by_cases h0 : 1 ≤ y.st
    · by_cases h1 : y.st ≤ 3
      · by_cases h2 : 0 ≤ y.f
        · by_cases h3 : y.f ≤ 1000
          · by_cases h4 : 0 ≤ y.nx
            · go_wp2_with fail
              go_ret
              exact ⟨ret_b (by rw [E.out]; unfold inB; (try rw [Bool.eq_iff_iff]); (first | (simp; done) | (simp; omega) | (simp only [Bool.and_eq_true, Bool.true_and, decide_eq_true_eq, Bool.false_eq_true]; omega))), L1.out⟩
            · go_wp2_with fail
              go_ret
              exact ⟨ret_b (by rw [E.out]; unfold inB; (try rw [Bool.eq_iff_iff]); (first | (simp; done) | (simp; omega) | (simp only [Bool.and_eq_true, Bool.true_and, decide_eq_true_eq, Bool.false_eq_true]; omega))), L1.out⟩
          · go_wp2_with fail
            go_ret
            exact ⟨ret_b (by rw [E.out]; unfold inB; (try rw [Bool.eq_iff_iff]); (first | (simp; done) | (simp; omega) | (simp only [Bool.and_eq_true, Bool.true_and, decide_eq_true_eq, Bool.false_eq_true]; omega))), L1.out⟩
        · go_wp2_with fail
          go_ret
          exact ⟨ret_b (by rw [E.out]; unfold inB; (try rw [Bool.eq_iff_iff]); (first | (simp; done) | (simp; omega) | (simp only [Bool.and_eq_true, Bool.true_and, decide_eq_true_eq, Bool.false_eq_true]; omega))), L1.out⟩
      · go_wp2_with fail
        go_ret
        exact ⟨ret_b (by rw [E.out]; unfold inB; (try rw [Bool.eq_iff_iff]); (first | (simp; done) | (simp; omega) | (simp only [Bool.and_eq_true, Bool.true_and, decide_eq_true_eq, Bool.false_eq_true]; omega))), L1.out⟩
    · go_wp2_with fail
      go_ret
      exact ⟨ret_b (by rw [E.out]; unfold inB; (try rw [Bool.eq_iff_iff]); (first | (simp; done) | (simp; omega) | (simp only [Bool.and_eq_true, Bool.true_and, decide_eq_true_eq, Bool.false_eq_true]; omega))), L1.out⟩
set_option maxHeartbeats 4000000 in
theorem due_any (y : Ey) (n : Int) (w : World) : Calls Try.prog 25 #[.agg #[.bool y.e.a.v6, .int .u64 y.e.a.hi, .int .u64 y.e.a.lo, .int .i64 y.e.n, .int .i64 y.st, .int .i64 y.f, .int .i64 y.nx], .int .i64 n] w fun e w' => e = .returned (.bool (dueY y n)) ∧ Below w.heap.size w w' := by
  have L0 : Hid (Below w.heap.size w (w.alloc (.cells #[.bool y.e.a.v6, .int .u64 y.e.a.hi, .int .u64 y.e.a.lo, .int .i64 y.e.n, .int .i64 y.st, .int .i64 y.f, .int .i64 y.nx] 37))) := Lib.hid (Lows.alloc (Lows.self w) _)
  have OB := Lib.hid (Blk.new w #[.bool y.e.a.v6, .int .u64 y.e.a.hi, .int .u64 y.e.a.lo, .int .i64 y.e.n, .int .i64 y.st, .int .i64 y.f, .int .i64 y.nx] 37)
  by_cases h : y.st = 1
  · have E : Hid (dueY y n = decide (y.nx ≤ n)) := Lib.hid (by unfold dueY; rw [h]; simp)
    have hq : (y.st == 1) = true := by rw [beq_iff_eq]; exact h
    clear h
    go_enter Try.func25, Try.ntmps25
    go_wp2_with fail
    go_ret
    exact ⟨ret_b (by rw [E.out]), L0.out⟩
  · have hq : (y.st == 1) = false := by rw [beq_eq_false_iff_ne]; exact h
    have E : Hid (dueY y n = false) := Lib.hid (by unfold dueY; rw [hq]; simp)
    clear h
    go_enter Try.func25, Try.ntmps25
    go_wp2_with fail
    go_ret
    exact ⟨ret_b (by rw [E.out]), L0.out⟩
set_option maxHeartbeats 4000000 in
theorem rdue_any (y : Ey) (n : Int) (w : World) : Calls Try.prog 8 #[.agg #[.bool y.e.a.v6, .int .u64 y.e.a.hi, .int .u64 y.e.a.lo, .int .i64 y.e.n, .int .i64 y.st, .int .i64 y.f, .int .i64 y.nx], .int .i64 n] w fun e w' => e = .returned (.bool (dueY y n)) ∧ Below w.heap.size w w' := by
  have L0 : Hid (Below w.heap.size w (w.alloc (.cells #[.bool y.e.a.v6, .int .u64 y.e.a.hi, .int .u64 y.e.a.lo, .int .i64 y.e.n, .int .i64 y.st, .int .i64 y.f, .int .i64 y.nx] 37))) := Lib.hid (Lows.alloc (Lows.self w) _)
  have OB := Lib.hid (Blk.new w #[.bool y.e.a.v6, .int .u64 y.e.a.hi, .int .u64 y.e.a.lo, .int .i64 y.e.n, .int .i64 y.st, .int .i64 y.f, .int .i64 y.nx] 37)
  by_cases h : y.st = 1
  · have E : Hid (dueY y n = decide (y.nx ≤ n)) := Lib.hid (by unfold dueY; rw [h]; simp)
    have hq : (y.st == 1) = true := by rw [beq_iff_eq]; exact h
    clear h
    go_enter Try.func8, Try.ntmps8
    go_wp2_with fail
    go_ret
    exact ⟨ret_b (by rw [E.out]), L0.out⟩
  · have hq : (y.st == 1) = false := by rw [beq_eq_false_iff_ne]; exact h
    have E : Hid (dueY y n = false) := Lib.hid (by unfold dueY; rw [hq]; simp)
    clear h
    go_enter Try.func8, Try.ntmps8
    go_wp2_with fail
    go_ret
    exact ⟨ret_b (by rw [E.out]), L0.out⟩
end Go.Proofs.Ytgnjbbohphoojaa.Et
/- Entries that came in; entries compared. -/
namespace Go.Proofs.Ytgnjbbohphoojaa
set_option maxRecDepth 100000
open Go.ChangeShapes Go.WideShapes Go.ChangeAt Go.RowKit
open Ad Ci En Sat Bk Et Go.Deep
set_option linter.unusedVariables false
theorem entry_cells {H : Type} {enc : TypeId × Value → H} {W : World} {fuel : Nat} {cs : List Value} {y : DataW H × List MemPlace}
    (hf : DataW.trod enc Try.prog W 0 (fun _ => true) true fuel 37 cs = some y) (hl : cs.length = 7) : ∃ x : Ey, cs = encY x ∧ x.ok := by
  match cs, hl with
  | [c0, c1, c2, c3, c4, c5, c6], _ =>
  obtain ⟨xs, m, _, _, _, hx, he⟩ := DataW.trod_struct Try.underlying37 hf
  have hx4 : xs.length = 4 := hx
  have k1 : Try.prog.cellsOf 3 = 1 := by kernel_rfl
  have k4 : Try.prog.cellsOf 33 = 4 := by kernel_rfl
  obtain ⟨y0, e0⟩ : ∃ y, xs[0]? = some y := ⟨_, List.getElem?_eq_getElem (by omega)⟩
  have h0 : DataW.trod enc Try.prog W 0 (fun _ => true) true m 33 (([c0, c1, c2, c3, c4, c5, c6].drop 0).take (Try.prog.cellsOf 33)) = xs[0]? := he 0 _ rfl
  rw [k4, e0] at h0
  have g0 : DataW.trod enc Try.prog W 0 (fun _ => true) true m 33 [c0, c1, c2, c3] = some y0 := h0
  obtain ⟨y1, e1⟩ : ∃ y, xs[1]? = some y := ⟨_, List.getElem?_eq_getElem (by omega)⟩
  have h1 : DataW.trod enc Try.prog W 0 (fun _ => true) true m 3 (([c0, c1, c2, c3, c4, c5, c6].drop 4).take (Try.prog.cellsOf 3)) = xs[1]? := he 1 _ rfl
  rw [k1, e1] at h1
  have g1 : DataW.trod enc Try.prog W 0 (fun _ => true) true m 3 [c4] = some y1 := h1
  obtain ⟨y2, e2⟩ : ∃ y, xs[2]? = some y := ⟨_, List.getElem?_eq_getElem (by omega)⟩
  have h2 : DataW.trod enc Try.prog W 0 (fun _ => true) true m 3 (([c0, c1, c2, c3, c4, c5, c6].drop 5).take (Try.prog.cellsOf 3)) = xs[2]? := he 2 _ rfl
  rw [k1, e2] at h2
  have g2 : DataW.trod enc Try.prog W 0 (fun _ => true) true m 3 [c5] = some y2 := h2
  obtain ⟨y3, e3⟩ : ∃ y, xs[3]? = some y := ⟨_, List.getElem?_eq_getElem (by omega)⟩
  have h3 : DataW.trod enc Try.prog W 0 (fun _ => true) true m 3 (([c0, c1, c2, c3, c4, c5, c6].drop 6).take (Try.prog.cellsOf 3)) = xs[3]? := he 3 _ rfl
  rw [k1, e3] at h3
  have g3 : DataW.trod enc Try.prog W 0 (fun _ => true) true m 3 [c6] = some y3 := h3
  obtain ⟨N, hN, jN⟩ := net_cells (ta := 31) (tb := 4) (tu := 29) (ti := 3) Try.underlying33 rfl rfl Try.underlying31 (by kernel_rfl) rfl rfl (by kernel_rfl) (by kernel_rfl) (by kernel_rfl) rfl rfl rfl Try.underlying4 Try.underlying29 Try.underlying3 g0
  obtain ⟨x1, j1, _, w1⟩ := DataW.trod_int Try.underlying3 g1
  obtain ⟨x2, j2, _, w2⟩ := DataW.trod_int Try.underlying3 g2
  obtain ⟨x3, j3, _, w3⟩ := DataW.trod_int Try.underlying3 g3
  simp only [List.cons.injEq, and_true] at jN j1 j2 j3
  obtain ⟨rfl, rfl, rfl, rfl⟩ := jN
  subst j1 j2 j3
  exact ⟨⟨⟨N.a, N.n⟩, x1, x2, x3⟩, rfl, hN, wf64 w1, wf64 w2, wf64 w3⟩
/-- An entry that came in. -/
theorem open_entry {H : Type} {enc : TypeId × Value → H} {W : World} {v : Value} {d : DataW H} {ps : List MemPlace} {r : Reach} {b0 : Nat}
    (hval : Value.okWide Try.prog W r b0 37 v) (h : DataW.Trod enc Try.prog W 0 (fun _ => true) true 37 v d ps) :
    ∃ y : Ey, y.ok ∧ v = .agg #[.bool y.e.a.v6, .int .u64 y.e.a.hi, .int .u64 y.e.a.lo, .int .i64 y.e.n, .int .i64 y.st, .int .i64 y.f, .int .i64 y.nx] := by
  obtain ⟨cs, rfl, hsz⟩ := okWide_struct Try.underlying37 hval
  have hC : Try.prog.cellsOf 37 = 7 := by kernel_rfl
  obtain ⟨fuel, hf⟩ := h
  obtain ⟨b, hb, hk⟩ := entry_cells hf (by show cs.toList.length = 7; rw [Array.length_toList, hsz, hC])
  refine ⟨b, hk, ?_⟩
  have e : cs = (encY b).toArray := by
    have : cs.toList = encY b := hb
    rw [← this]
  rw [e]; rfl
/-- An entry equals itself. -/
theorem eqEntry_self (y : Ey) (w : World) : (binOp .eql 37 (.agg #[.bool y.e.a.v6, .int .u64 y.e.a.hi, .int .u64 y.e.a.lo, .int .i64 y.e.n, .int .i64 y.st, .int .i64 y.f, .int .i64 y.nx]) (.agg #[.bool y.e.a.v6, .int .u64 y.e.a.hi, .int .u64 y.e.a.lo, .int .i64 y.e.n, .int .i64 y.st, .int .i64 y.f, .int .i64 y.nx])).run Try.prog w = .ok (.bool true) w := by
  have hE : ∀ w : World, (isAgg 33).run Try.prog w = .ok true w := fun _ => by kernel_rfl
  have hzE : ∀ w : World, (sizeOf 33).run Try.prog w = .ok 4 w := fun _ => by kernel_rfl
  have h3 : ∀ w : World, (isAgg 3).run Try.prog w = .ok false w := fun _ => by kernel_rfl
  rw [run_eql_struct, run_equalIn_struct w 9999 _ _ _ (by kernel_rfl) (by kernel_rfl)]
  rw [show (Try.prog.fieldsOf 37).toList = [⟨"End", 33, 0, false, "", "", 0⟩, ⟨"State", 3, 4, false, "", "", 32⟩, ⟨"Fails", 3, 5, false, "", "", 40⟩, ⟨"Next", 3, 6, false, "", "", 48⟩] from by kernel_rfl]
  obtain ⟨cs, hcs⟩ : ∃ cs : Array Value, cs = #[.bool y.e.a.v6, .int .u64 y.e.a.hi, .int .u64 y.e.a.lo, .int .i64 y.e.n, .int .i64 y.st, .int .i64 y.f, .int .i64 y.nx] := ⟨_, rfl⟩
  have p0 : (part 33 cs 0).run Try.prog w = .ok (.agg #[.bool y.e.a.v6, .int .u64 y.e.a.hi, .int .u64 y.e.a.lo, .int .i64 y.e.n]) w := by rw [hcs]; simp [part, hE, hzE]
  have p1 : (part 3 cs 4).run Try.prog w = .ok (.int .i64 y.st) w := by rw [hcs]; exact part_one w _ _ _ _ (h3 w) rfl
  have p2 : (part 3 cs 5).run Try.prog w = .ok (.int .i64 y.f) w := by rw [hcs]; exact part_one w _ _ _ _ (h3 w) rfl
  have p3 : (part 3 cs 6).run Try.prog w = .ok (.int .i64 y.nx) w := by rw [hcs]; exact part_one w _ _ _ _ (h3 w) rfl
  have q0 := eqInEnd 9996 y.e y.e w
  rw [same_selfE] at q0
  have q2 : ∀ n : Int, (Op.equalIn 9999 3 (.int .i64 n) (.int .i64 n)).run Try.prog w = .ok true w := fun n => by
    have k := run_equalIn_int (P := Try.prog) w 9998 3 .i64 .i64 n n Try.underlying3
    simpa using k
  rw [← hcs]
  simp [Op.eqFields, Sem.run_bind, Sem.run_ite, p0, p1, p2, p3, q0, q2, Result.andThen_ok]
/-- The state of an entry that a call answered. -/
theorem field_st (y : Ey) (w : World) : (Instr.field 37 (.agg #[.bool y.e.a.v6, .int .u64 y.e.a.hi, .int .u64 y.e.a.lo, .int .i64 y.e.n, .int .i64 y.st, .int .i64 y.f, .int .i64 y.nx]) 1).run Try.prog w = .ok (.int .i64 y.st) w := by kernel_rfl
end Go.Proofs.Ytgnjbbohphoojaa
/- The mathematics of books: lists of entries, by their ends. Of no program. -/
namespace Go.Proofs.Ytgnjbbohphoojaa.Bo
set_option maxRecDepth 100000
open Ad Ci En Sat Bk Et
set_option linter.unusedVariables false
instance : Inhabited Ey := ⟨⟨zeroE, 0, 0, 0⟩⟩
instance : Inhabited Endp := ⟨zeroE⟩
/-- Where the first is of which p is true; -1, if of none. -/
def posY (p : Ey → Bool) (l : List Ey) : Int := if l.findIdx p < l.length then (l.findIdx p : Int) else -1
theorem posY_hit {p : Ey → Bool} {l : List Ey} {k : Nat} (hk : k < l.length) (h : ∀ i, i < l.length → i < k → p l[i]! = false) (hp : p l[k]! = true) : posY p l = (k : Int) ∧ l.findIdx p = k := by
  have e : l.findIdx p = k := (List.findIdx_eq hk).2 ⟨by rw [getElem!_pos l k hk] at hp; exact hp, fun j hj => by have := h j (by omega) hj; rw [getElem!_pos l j (by omega)] at this; simpa using this⟩
  exact ⟨by unfold posY; rw [e, if_pos hk], e⟩
theorem posY_miss {p : Ey → Bool} {l : List Ey} (h : ∀ i, i < l.length → p l[i]! = false) : posY p l = -1 ∧ l.findIdx p = l.length := by
  have e : l.findIdx p = l.length := by
    rw [List.findIdx_eq_length]
    intro x hx
    obtain ⟨i, hi, rfl⟩ := List.getElem_of_mem hx
    have := h i hi
    rw [getElem!_pos l i hi] at this
    simpa using this
  exact ⟨by unfold posY; rw [e, if_neg (by omega)], e⟩
theorem posY_neg {p : Ey → Bool} {l : List Ey} : 0 ≤ posY p l ↔ l.findIdx p < l.length := by
  unfold posY
  split <;> omega
theorem posY_is (p : Ey → Bool) (l : List Ey) : (l.findIdx p < l.length ∧ posY p l = (l.findIdx p : Int)) ∨ (l.findIdx p = l.length ∧ posY p l = -1) := by
  unfold posY
  have := List.findIdx_le_length (xs := l) (p := p)
  split
  · exact Or.inl ⟨by assumption, rfl⟩
  · exact Or.inr ⟨by omega, rfl⟩
def isE (E : Endp) (x : Ey) : Bool := sameE x.e E
def isP (E : Endp) (x : Ey) : Bool := decide (0 < cmpE x.e E)
def findR (l : List Ey) (E : Endp) : Int := posY (isE E) l
def placeR (l : List Ey) (E : Endp) : Nat := l.findIdx (isP E)
theorem place_le (l : List Ey) (E : Endp) : placeR l E ≤ l.length := List.findIdx_le_length
def insR (l : List Ey) (y : Ey) : List Ey := l.take (placeR l y.e) ++ y :: l.drop (placeR l y.e)
def codeR (l : List Ey) (y : Ey) (most : Int) : Int := if rightY y = false then 1 else if 0 ≤ findR l y.e then 7 else if most ≤ (l.length : Int) then 5 else 0
def addR (l : List Ey) (y : Ey) (most : Int) : List Ey := if codeR l y most = 0 then insR l y else []
theorem add_wrong {l : List Ey} {y : Ey} (most : Int) (h : rightY y = false) : codeR l y most = 1 ∧ addR l y most = [] := by
  have e : codeR l y most = 1 := by unfold codeR; rw [if_pos h]
  exact ⟨e, by unfold addR; rw [e]; rfl⟩
theorem add_twice {l : List Ey} {y : Ey} (most : Int) (h : rightY y = true) (h2 : 0 ≤ findR l y.e) : codeR l y most = 7 ∧ addR l y most = [] := by
  have e : codeR l y most = 7 := by unfold codeR; rw [if_neg (by simp [h]), if_pos h2]
  exact ⟨e, by unfold addR; rw [e]; rfl⟩
theorem add_full {l : List Ey} {y : Ey} {most : Int} (h : rightY y = true) (h2 : ¬ 0 ≤ findR l y.e) (h3 : most ≤ (l.length : Int)) : codeR l y most = 5 ∧ addR l y most = [] := by
  have e : codeR l y most = 5 := by unfold codeR; rw [if_neg (by simp [h]), if_neg h2, if_pos h3]
  exact ⟨e, by unfold addR; rw [e]; rfl⟩
theorem add_done {l : List Ey} {y : Ey} {most : Int} (h : rightY y = true) (h2 : ¬ 0 ≤ findR l y.e) (h3 : ¬ most ≤ (l.length : Int)) : codeR l y most = 0 ∧ addR l y most = insR l y := by
  have e : codeR l y most = 0 := by unfold codeR; rw [if_neg (by simp [h]), if_neg h2, if_neg h3]
  exact ⟨e, by unfold addR; rw [e]; rfl⟩
theorem code_zero {l : List Ey} {y : Ey} {most : Int} (h : codeR l y most = 0) : rightY y = true ∧ findR l y.e = -1 ∧ (l.length : Int) < most ∧ addR l y most = insR l y := by
  have e : addR l y most = insR l y := by unfold addR; rw [if_pos h]
  unfold codeR at h
  split at h
  · omega
  split at h
  · omega
  split at h
  · omega
  rename_i h1 h2 h3
  refine ⟨by simpa using h1, ?_, by omega, e⟩
  rcases posY_is (isE y.e) l with ⟨_, h⟩ | ⟨_, h⟩
  · unfold findR at h2; omega
  · exact h
def setR (l : List Ey) (y : Ey) : List Ey := l.set (l.findIdx (isE y.e)) y
theorem set_hit {l : List Ey} {y : Ey} {k : Nat} (h : l.findIdx (isE y.e) = k) : setR l y = l.set k y := by unfold setR; rw [h]
theorem set_miss {l : List Ey} {y : Ey} (h : l.findIdx (isE y.e) = l.length) : setR l y = l := by unfold setR; rw [h]; exact List.set_eq_of_length_le (Nat.le_refl _)
theorem set_len (l : List Ey) (y : Ey) : (setR l y).length = l.length := by unfold setR; rw [List.length_set]
theorem set_ok {l : List Ey} {y : Ey} (h : ∀ x ∈ l, x.ok) (hy : y.ok) : ∀ x ∈ setR l y, x.ok := fun x hx => by
  rcases List.mem_or_eq_of_mem_set hx with h2 | rfl
  · exact h x h2
  · exact hy
theorem ins_ok {l : List Ey} {y : Ey} (h : ∀ x ∈ l, x.ok) (hy : y.ok) : ∀ x ∈ insR l y, x.ok := fun x hx => by
  unfold insR at hx
  rw [List.mem_append, List.mem_cons] at hx
  rcases hx with h2 | rfl | h2
  · exact h x (List.mem_of_mem_take h2)
  · exact hy
  · exact h x (List.mem_of_mem_drop h2)
theorem add_ok {l : List Ey} {y : Ey} (most : Int) (h : ∀ x ∈ l, x.ok) (hy : y.ok) : ∀ x ∈ addR l y most, x.ok := fun x hx => by
  unfold addR at hx
  split at hx
  · exact ins_ok h hy x hx
  · simp at hx
theorem ins_len (l : List Ey) (y : Ey) : (insR l y).length = l.length + 1 := by
  unfold insR
  have := place_le l y.e
  simp only [List.length_append, List.length_cons, List.length_take, List.length_drop]
  omega
theorem add_len (l : List Ey) (y : Ey) (most : Int) : (addR l y most).length ≤ l.length + 1 := by
  unfold addR
  split
  · rw [ins_len]; omega
  · simp
theorem ins_find (l : List Ey) (y : Ey) : 0 ≤ findR (insR l y) y.e := by
  unfold findR
  rw [posY_neg, List.findIdx_lt_length]
  exact ⟨y, by unfold insR; simp, by unfold isE; exact (sameE_iff _ _).2 rfl⟩
def hasR (es : List Endp) (E : Endp) : Bool := es.any fun F => sameE F E
def hitR (es : List Endp) (x : Ey) : Bool := (x.st == 3) && hasR es x.e
def downY (es : List Endp) (x : Ey) : Ey := if hitR es x = true then stateY x 1 else x
def downR (l : List Ey) (es : List Endp) : List Ey := l.map (downY es)
theorem down_len (l : List Ey) (es : List Endp) : (downR l es).length = l.length := by unfold downR; rw [List.length_map]
theorem has_next {es : List Endp} {i : Nat} (h : i < es.length) (E : Endp) : hasR (es.take (i + 1)) E = (hasR (es.take i) E || sameE es[i]! E) := by
  unfold hasR
  rw [List.take_succ_eq_append_getElem h, List.any_append, getElem!_pos es i h]
  simp
theorem has_done {es : List Endp} {i : Nat} (h : es.length ≤ i) : es.take i = es := List.take_of_length_le h
/-- The first k are done. -/
def dnR (l : List Ey) (es : List Endp) (k : Nat) : List Ey := (l.take k).map (downY es) ++ l.drop k
theorem dn_zero (l : List Ey) (es : List Endp) : dnR l es 0 = l := by unfold dnR; simp
theorem dn_done {l : List Ey} (es : List Endp) {k : Nat} (h : l.length ≤ k) : dnR l es k = downR l es := by
  unfold dnR downR
  rw [List.take_of_length_le h, List.drop_of_length_le h, List.append_nil]
theorem dn_len {l : List Ey} (es : List Endp) {k : Nat} : (dnR l es k).length = l.length := by
  unfold dnR
  simp only [List.length_append, List.length_map, List.length_take, List.length_drop]
  omega
theorem dn_at {l : List Ey} (es : List Endp) {k : Nat} (h : k < l.length) : (dnR l es k)[k]! = l[k]! := by
  rw [getElem!_pos _ k (by rw [dn_len]; exact h), getElem!_pos l k h]
  unfold dnR
  rw [List.getElem_append_right (by simp; omega)]
  simp only [List.length_map, List.length_take, List.getElem_drop]
  congr 1
  omega
theorem dn_next {l : List Ey} (es : List Endp) {k : Nat} (h : k < l.length) : (dnR l es k).set k (downY es l[k]!) = dnR l es (k + 1) := by
  unfold dnR
  have hl : ((l.take k).map (downY es)).length = k := by simp; omega
  rw [List.set_append_right _ _ (by omega), hl, Nat.sub_self, List.take_succ_eq_append_getElem h, List.map_append, List.drop_eq_getElem_cons h, List.set_cons_zero, getElem!_pos l k h]
  simp
theorem dn_skip {l : List Ey} (es : List Endp) {k : Nat} (h : k < l.length) (hn : hitR es l[k]! = false) : dnR l es k = dnR l es (k + 1) := by
  have e : downY es l[k]! = l[k]! := by unfold downY; rw [hn]; simp
  rw [← dn_next es h, e]
  have h2 : l[k]! = (dnR l es k)[k]'(by rw [dn_len]; exact h) := by rw [← getElem!_pos, dn_at es h]
  rw [h2, List.set_getElem_self]
def countR (l : List Ey) (s : Int) : Nat := l.countP fun x => x.st == s
theorem count_next {l : List Ey} {i : Nat} (h : i < l.length) (s : Int) : countR (l.take (i + 1)) s = countR (l.take i) s + (if l[i]!.st = s then 1 else 0) := by
  unfold countR
  rw [List.take_succ_eq_append_getElem h, List.countP_append, getElem!_pos l i h]
  simp [List.countP_cons]
theorem count_le (l : List Ey) (s : Int) : countR l s ≤ l.length := List.countP_le_length
/-- A book that may be. -/
def RightL (l : List Ey) : Prop := (∀ x ∈ l, rightY x = true) ∧ l.Pairwise fun a b => cmpE a.e b.e < 0
instance (l : List Ey) : Decidable (RightL l) := by unfold RightL; infer_instance
def rightB (l : List Ey) : Bool := decide (RightL l)
theorem rightB_iff (l : List Ey) : rightB l = true ↔ RightL l := by unfold rightB; simp
theorem rightB_not {l : List Ey} (h : ¬ RightL l) : rightB l = false := by unfold rightB; simp [h]
theorem cmpE_lt {a b c : Endp} (h1 : cmpE a b < 0) (h2 : cmpE b c < 0) : cmpE a c < 0 := by
  have h := cmpE_le (a := a) (b := b) (c := c) (by omega) (by omega)
  rcases Int.lt_or_eq_of_le h with h3 | h3
  · exact h3
  · obtain rfl := (cmpE_zero a c).1 h3
    have := cmpE_flip a b
    omega
theorem right_all {l : List Ey} (h : ∀ i, i < l.length → rightY l[i]! = true ∧ ∀ k, k < i → cmpE l[k]!.e l[i]!.e < 0) : rightB l = true := by
  rw [rightB_iff]
  refine ⟨fun x hx => ?_, List.pairwise_iff_getElem.2 fun i j hi hj hij => ?_⟩
  · obtain ⟨i, hi, rfl⟩ := List.getElem_of_mem hx
    have := (h i hi).1
    rwa [getElem!_pos l i hi] at this
  · have := (h j hj).2 i hij
    rwa [getElem!_pos l i hi, getElem!_pos l j hj] at this
theorem right_step {l : List Ey} {n : Nat} (h : ∀ i, i < n → 0 < i → 0 < cmpE l[i]!.e l[i - 1]!.e) : ∀ i, i < n → ∀ k, k < i → cmpE l[k]!.e l[i]!.e < 0
  | 0, _, k, hk => by omega
  | i + 1, hi, k, hk => by
    have h1 := h (i + 1) hi (by omega)
    rw [Nat.add_sub_cancel] at h1
    have h2 := cmpE_flip l[i]!.e l[i + 1]!.e
    rcases Nat.lt_or_eq_of_le (Nat.lt_succ_iff.1 hk) with h3 | rfl
    · exact cmpE_lt (right_step h i (by omega) k h3) (by omega)
    · omega
theorem right_next {l : List Ey} (h : ∀ i, i < l.length → rightY l[i]! = true ∧ (0 < i → 0 < cmpE l[i]!.e l[i - 1]!.e)) : rightB l = true :=
  right_all fun i hi => ⟨(h i hi).1, right_step (n := l.length) (fun j hj h0 => (h j hj).2 h0) i hi⟩
theorem right_no1 {l : List Ey} {i : Nat} (h : i < l.length) (hr : rightY l[i]! = false) : rightB l = false := rightB_not fun k => by
  have := k.1 _ (List.getElem_mem h)
  rw [getElem!_pos l i h] at hr
  rw [hr] at this
  cases this
theorem right_no3 {l : List Ey} {k i : Nat} (h : i < l.length) (hk : k < i) (hc : 0 ≤ cmpE l[k]!.e l[i]!.e) : rightB l = false := rightB_not fun r => by
  have := List.pairwise_iff_getElem.1 r.2 k i (by omega) h hk
  rw [getElem!_pos l k (by omega), getElem!_pos l i h] at hc
  omega
theorem right_no2 {l : List Ey} {i : Nat} (h : i < l.length) (h0 : 0 < i) (hc : ¬ 0 < cmpE l[i]!.e l[i - 1]!.e) : rightB l = false := by
  refine right_no3 (k := i - 1) h (by omega) ?_
  have := cmpE_flip l[i]!.e l[i - 1]!.e
  omega
theorem ins_right {l : List Ey} {y : Ey} (h : RightL l) (hy : rightY y = true) (hf : findR l y.e = -1) : RightL (insR l y) := by
  have hne : ∀ x ∈ l, cmpE x.e y.e ≠ 0 := fun x hx e => by
    have : l.findIdx (isE y.e) < l.length := List.findIdx_lt_length.2 ⟨x, hx, by unfold isE; exact (sameE_iff _ _).2 ((cmpE_zero _ _).1 e)⟩
    unfold findR at hf
    have := posY_neg.2 this
    omega
  have hlow : ∀ x ∈ l.take (placeR l y.e), cmpE x.e y.e < 0 := fun x hx => by
    obtain ⟨i, hi, rfl⟩ := List.getElem_of_mem hx
    rw [List.length_take] at hi
    rw [List.getElem_take]
    have h1 : isP y.e l[i] = false := by
      have := List.not_of_lt_findIdx (p := isP y.e) (xs := l) (i := i) (by unfold placeR at hi; omega)
      simpa using this
    have h2 := hne l[i] (List.getElem_mem _)
    unfold isP at h1
    simp at h1
    omega
  have hup : ∀ x ∈ l.drop (placeR l y.e), cmpE y.e x.e < 0 := fun x hx => by
    obtain ⟨i, hi, rfl⟩ := List.getElem_of_mem hx
    rw [List.length_drop] at hi
    rw [List.getElem_drop]
    have hk : placeR l y.e < l.length := by omega
    have h1 : 0 < cmpE (l[placeR l y.e]).e y.e := by
      have h5 : isP y.e (l[placeR l y.e]) = true := List.findIdx_getElem (p := isP y.e) (xs := l) (w := hk)
      exact of_decide_eq_true h5
    have h2 := cmpE_flip y.e (l[placeR l y.e]).e
    rcases Nat.eq_zero_or_pos i with rfl | h0
    · simp only [Nat.add_zero]; omega
    · have h3 := List.pairwise_iff_getElem.1 h.2 (placeR l y.e) (placeR l y.e + i) hk (by omega) (by omega)
      exact cmpE_lt (by omega) h3
  have hp : (l.take (placeR l y.e) ++ l.drop (placeR l y.e)).Pairwise fun a b => cmpE a.e b.e < 0 := by rw [List.take_append_drop]; exact h.2
  rw [List.pairwise_append] at hp
  refine ⟨fun x hx => ?_, ?_⟩
  · unfold insR at hx
    rw [List.mem_append, List.mem_cons] at hx
    rcases hx with h2 | rfl | h2
    · exact h.1 x (List.mem_of_mem_take h2)
    · exact hy
    · exact h.1 x (List.mem_of_mem_drop h2)
  · unfold insR
    rw [List.pairwise_append, List.pairwise_cons]
    refine ⟨hp.1, ⟨hup, hp.2.1⟩, fun a ha b hb => ?_⟩
    rw [List.mem_cons] at hb
    rcases hb with rfl | hb
    · exact hlow a ha
    · exact hp.2.2 a ha b hb
theorem set_right {l : List Ey} {y : Ey} (h : RightL l) (hy : rightY y = true) : RightL (setR l y) := by
  by_cases hk : l.findIdx (isE y.e) < l.length
  · obtain ⟨k, e⟩ : ∃ k, l.findIdx (isE y.e) = k := ⟨_, rfl⟩
    have he : (l[k]'(by omega)).e = y.e := by
      have := List.findIdx_getElem (p := isE y.e) (xs := l) (w := hk)
      unfold isE at this
      subst e
      exact (sameE_iff _ _).1 this
    rw [e] at hk
    rw [set_hit e]
    refine ⟨fun x hx => ?_, List.pairwise_iff_getElem.2 fun i j hi hj hij => ?_⟩
    · rcases List.mem_or_eq_of_mem_set hx with h2 | rfl
      · exact h.1 x h2
      · exact hy
    · rw [List.length_set] at hi hj
      have h2 := List.pairwise_iff_getElem.1 h.2 i j hi hj hij
      have h3 : ∀ m (hm : m < l.length), ((l.set k y)[m]'(by rw [List.length_set]; exact hm)).e = l[m].e := fun m hm => by
        rw [List.getElem_set]
        split
        · rename_i h4; subst h4; exact he.symm
        · rfl
      rw [h3 i hi, h3 j hj]
      exact h2
  · rw [set_miss (by have := List.findIdx_le_length (xs := l) (p := isE y.e); omega)]
    exact h
theorem right_nil : RightL [] := ⟨fun _ h => absurd h List.not_mem_nil, List.Pairwise.nil⟩
end Go.Proofs.Ytgnjbbohphoojaa.Bo
/- Entries in memory: put behind each other, stored, compared; slices.Grow, Concat, Clone at entries, walked in the library's own text. -/
namespace Go.Proofs.Ytgnjbbohphoojaa.Bo
set_option maxRecDepth 100000
open Go.ChangeShapes Go.WideShapes Go.ChangeAt Go.RowKit
open Ad Ci En Sat Bk Et Go.Deep
set_option linter.unusedVariables false
abbrev Books (w : World) (v : Value) (l : List Ey) : Prop := Recs 7 encY w v l
theorem lowT {B : Nat} {a b c : World} (h : Below B a b) (k : Lows b c) (hB : B ≤ a.heap.size := by exact Nat.le_refl _) : Below B a c := h.trans (k.mono (Nat.le_trans hB h.size))
theorem entry_at {w : World} {bb o : Nat} {l : List Ey} {wr : World} (hlow : Below w.heap.size w wr) (hb : bb < w.heap.size) (hcc : ∀ i (h : i < l.length) j u, (encY l[i])[j]? = some u → w.cell? ⟨bb, o + i * 7 + j, none⟩ = some u) {i : Nat} (hi : i < l.length) {j : Nat} {u : Value} (hu : (encY l[i]!)[j]? = some u) : wr.cell? ⟨bb, o + i * 7 + j, none⟩ = some u := by
  rw [getElem!_pos l i hi] at hu
  exact (hlow.cell (p := ⟨bb, o + i * 7 + j, none⟩) hb).trans (hcc i hi j u hu)
theorem encY_len7 (y : Ey) : (encY y).length = 7 := rfl
abbrev OwnY (B : Nat) (w : World) (v : Value) (l : List Ey) : Prop := w.ownsRow B 37 7 v l.length (flat encY l)
theorem encY_one : ∀ x, ∀ u ∈ encY x, u.oneCell' = true := fun x u hu => by
  simp only [encY, List.mem_cons, List.not_mem_nil, or_false] at hu
  rcases hu with rfl | rfl | rfl | rfl | rfl | rfl | rfl <;> rfl
theorem ownY_lit (W : World) {B : Nat} (hB : B ≤ W.heap.size) : OwnY B (W.alloc (.cells #[] 37)) (.slice (some ⟨W.heap.size, 0, none⟩) 0 0) [] := World.ownsRow_made W #[] 0 hB (by simp [maxLen]) rfl
theorem ownY_nil_at {B : Nat} (W : World) (g : Nat) (hg : g = W.heap.size) (hB : B ≤ W.heap.size) : OwnY B (W.alloc (.cells #[] 37)) (.slice (some ⟨g, 0, none⟩) 0 0) [] := by rw [hg]; exact ownY_lit W hB
theorem ownY_drew {B : Nat} {W : World} {v : Value} {l : List Ey} (h : OwnY B W v l) : OwnY B W.drew v l := World.ownsRow.drew h
theorem ownY_alloc {B : Nat} {W : World} {v : Value} {l : List Ey} (h : OwnY B W v l) (o : Obj) : OwnY B (W.alloc o) v l := World.ownsRow.alloc h o
theorem blkN_at (W : World) (g : Nat) {cs : Array Value} {t : TypeId} {L : List Value} (hg : g = W.heap.size) (hL : cs.toList = L) : Blk (W.alloc (.cells cs t)) g t L := by rw [hg, ← hL]; exact Blk.new W cs t
/-- Entries put behind entries: no block but the row's own is touched. -/
theorem append_ys {B : Nat} {W : World} {v x : Value} {xs ys : List Ey} (hown : OwnY B W v xs) (hy : Books W x ys) (hlen : xs.length + ys.length ≤ 1000000) (hB : B ≤ W.heap.size) :
    ∃ v' w', (Builtin.append_ #[22, 22] 22 #[v, x]).run Try.prog W = .ok v' w' ∧ OwnY B w' v' (xs ++ ys) ∧ Below B W w' ∧ ∀ k, k < W.heap.size → some k ≠ v.ownBlock → w'.heap[k]? = W.heap[k]? := by
  obtain ⟨i, hi, hz0, hz1, hz2⟩ := info_parts (P := Try.prog) (e := 37) (z := .agg #[.bool false, .int .u64 0, .int .u64 0, .int .i64 0, .int .i64 0, .int .i64 0, .int .i64 0]) (size := 7) (bytes := 56) (by kernel_rfl)
  obtain ⟨A, c, rfl, hc, hnil, hcell⟩ := hy
  cases A with
  | none =>
    obtain rfl := hnil rfl
    obtain rfl : ys = [] := List.eq_nil_of_length_eq_zero (by omega)
    have hr := run_append_owned_none (P := Try.prog) (w := W) B 22 22 37 i 7 Try.underlying22 hi v xs.length (flat encY xs) hown
    refine ⟨v, W, hr, ?_, Below.refl _ _, fun _ _ _ => rfl⟩
    rw [List.append_nil]; exact hown
  | some a =>
    obtain ⟨v', w', hr, h2, h3, _⟩ := run_append_own (P := Try.prog) W B 22 22 37 i _ 7 56 Try.underlying22 hi hz0 hz1 hz2 rfl (by decide) v xs.length (flat encY xs) hown
      a ys.length c (flat encY ys) (flat_len encY_len7 ys) (fun j u hj => by
        have hlt : j < ys.length * 7 := by have := (List.getElem?_eq_some_iff.1 hj).1; rwa [flat_len encY_len7] at this
        have hq : j / 7 < ys.length := by omega
        have hjm : j = j / 7 * 7 + j % 7 := by omega
        rw [hjm, flat_at encY_len7 ys _ _ hq (Nat.mod_lt _ (by decide))] at hj
        obtain ⟨b, o, e, _, hcc⟩ := hcell (Nat.lt_of_le_of_lt (Nat.zero_le _) hq)
        obtain rfl : a = ⟨b, o, none⟩ := Option.some.inj e
        rw [add_plain, hjm, ← Nat.add_assoc]
        exact hcc _ hq _ _ hj) (fun u hu => by
        obtain ⟨y, _, hu2⟩ := List.mem_flatMap.1 hu
        exact encY_one y u hu2) (by simp only [maxLen]; omega) (by omega) hB
    refine ⟨v', w', hr, ?_, (Below.refl B W).grown h3 hB (fun k hk => (hown.lt k hk).1), fun k h1 h2 => h3.block k h1 h2⟩
    unfold OwnY
    rw [List.length_append, flat_append]
    exact h2
theorem append_entries {B : Nat} {W : World} {v x : Value} {xs ys : List Ey} (hown : OwnY B W v xs) (hy : Books W x ys) (hlen : xs.length + ys.length ≤ 1000000) (hB : B ≤ W.heap.size) :
    ∃ v' w', (Builtin.append_ #[22, 22] 22 #[v, x]).run Try.prog W = .ok v' w' ∧ OwnY B w' v' (xs ++ ys) ∧ Below B W w' := by
  obtain ⟨v', w', h1, h2, h3, _⟩ := append_ys hown hy hlen hB
  exact ⟨v', w', h1, h2, h3⟩
theorem ownY_books {B : Nat} {w : World} {v : Value} {l : List Ey} (h : OwnY B w v l) : Books w v l := (recs_own encY_len7 (by decide) h).1
theorem ownY_blk {B : Nat} {w : World} {v : Value} {l : List Ey} (h : OwnY B w v l) (h0 : 0 < l.length) : ∃ g cap Z, v = .slice (some ⟨g, 0, none⟩) l.length cap ∧ B ≤ g ∧ l.length ≤ cap ∧ Blk w g 37 (flat encY l ++ Z) := by
  obtain ⟨h1, h2⟩ := h
  rcases h2 with ⟨_, h3⟩ | ⟨g, cap, cur, rfl, hB, hg, hn, _, _, ht⟩
  · omega
  · refine ⟨g, cap, cur.toList.drop (l.length * 7), rfl, hB, hn, ?_⟩
    unfold Blk
    rw [hg, ← ht, List.take_append_drop]
theorem spliceZ {α : Type} (A Z vs : List α) (o : Nat) (h : o + vs.length ≤ A.length) : splice (A ++ Z) o vs = splice A o vs ++ Z := by
  unfold splice
  rw [List.take_append_of_le_length (by omega), List.drop_append_of_le_length h]
  simp only [List.append_assoc]
theorem spliceY (D : List Ey) (i : Nat) (x : Ey) (h : i < D.length) : splice D i [x] = D.set i x := by
  unfold splice
  rw [List.set_eq_take_append_cons_drop, if_pos h]
  simp
theorem put_entry {w : World} {g : Nat} {t : TypeId} {D : List Ey} {Z : List Value} (h : Blk w g t (flat encY D ++ Z)) {i : Nat} (hi : i < D.length) (x : Ey) :
    Blk (((((((w.setCell ⟨g, i * 7, none⟩ (.bool x.e.a.v6)).setCell ⟨g, i * 7 + 1, none⟩ (.int .u64 x.e.a.hi)).setCell ⟨g, i * 7 + 2, none⟩ (.int .u64 x.e.a.lo)).setCell ⟨g, i * 7 + 3, none⟩ (.int .i64 x.e.n)).setCell ⟨g, i * 7 + 4, none⟩ (.int .i64 x.st)).setCell ⟨g, i * 7 + 5, none⟩ (.int .i64 x.f)).setCell ⟨g, i * 7 + 6, none⟩ (.int .i64 x.nx)) g t (flat encY (D.set i x) ++ Z) ∧ Bt g w (((((((w.setCell ⟨g, i * 7, none⟩ (.bool x.e.a.v6)).setCell ⟨g, i * 7 + 1, none⟩ (.int .u64 x.e.a.hi)).setCell ⟨g, i * 7 + 2, none⟩ (.int .u64 x.e.a.lo)).setCell ⟨g, i * 7 + 3, none⟩ (.int .i64 x.e.n)).setCell ⟨g, i * 7 + 4, none⟩ (.int .i64 x.st)).setCell ⟨g, i * 7 + 5, none⟩ (.int .i64 x.f)).setCell ⟨g, i * 7 + 6, none⟩ (.int .i64 x.nx)) := by
  have k := setCells_blk g t (encY x) (i * 7) w _ h (by rw [encY_len7, List.length_append, flat_len encY_len7]; omega)
  rw [spliceZ _ _ _ _ (by rw [encY_len7, flat_len encY_len7]; omega), ← flat_one encY x, flat_splice encY_len7, spliceY _ _ _ hi, flat_one] at k
  exact k
theorem cellY {w : World} {g : Nat} {t : TypeId} {D : List Ey} {Z : List Value} (h : Blk w g t (flat encY D ++ Z)) {i j : Nat} {u : Value} (hi : i < D.length) (hu : (encY D[i]!)[j]? = some u) : w.cell? ⟨g, i * 7 + j, none⟩ = some u := by
  have hj : j < 7 := by have := (List.getElem?_eq_some_iff.1 hu).1; rwa [encY_len7] at this
  refine h.cell ?_
  rw [List.getElem?_append_left (by rw [flat_len encY_len7]; omega), flat_at encY_len7 D i j hi hj, ← hu, getElem!_pos D i hi]
theorem readsY {w : World} {g cap : Nat} {t : TypeId} {D : List Ey} {Z : List Value} (h : Blk w g t (flat encY D ++ Z)) (hc : D.length ≤ cap) : Books w (.slice (some ⟨g, 0, none⟩) D.length cap) D :=
  Blk.reads (m := D.length) encY_len7 h (by rw [List.take_left' (flat_len encY_len7 D)]) rfl hc
theorem flat_st : ∀ (D : List Ey) (i : Nat) (s : Int), i < D.length → (flat encY D).set (i * 7 + 4) (.int .i64 s) = flat encY (D.set i (stateY D[i]! s))
  | [], i, s, h => by simp at h
  | d :: D, 0, s, _ => rfl
  | d :: D, i + 1, s, h => by
    have e : ∀ (d : Ey) (D : List Ey), flat encY (d :: D) = encY d ++ flat encY D := fun d D => by unfold flat; rw [List.flatMap_cons]
    have ih := flat_st D i s (by simpa using h)
    rw [List.set_cons_succ, e, e, show (d :: D)[i + 1]! = D[i]! from rfl, ← ih, show (i + 1) * 7 + 4 = 7 + (i * 7 + 4) by omega]
    rw [List.set_append_right _ _ (by rw [encY_len7]; omega), encY_len7, Nat.add_sub_cancel_left]
theorem put_st {w : World} {g : Nat} {t : TypeId} {D : List Ey} {Z : List Value} (h : Blk w g t (flat encY D ++ Z)) {i : Nat} (hi : i < D.length) (s : Int) :
    Blk (w.setCell ⟨g, i * 7 + 4, none⟩ (.int .i64 s)) g t (flat encY (D.set i (stateY D[i]! s)) ++ Z) := by
  have e := h.set (i * 7 + 4) (.int .i64 s)
  rw [List.set_append_left _ _ (by rw [flat_len encY_len7]; omega), flat_st D i s hi] at e
  exact e
theorem neqEntry_self (y : Ey) (w : World) : (binOp .neq 37 (.agg #[.bool y.e.a.v6, .int .u64 y.e.a.hi, .int .u64 y.e.a.lo, .int .i64 y.e.n, .int .i64 y.st, .int .i64 y.f, .int .i64 y.nx]) (.agg #[.bool y.e.a.v6, .int .u64 y.e.a.hi, .int .u64 y.e.a.lo, .int .i64 y.e.n, .int .i64 y.st, .int .i64 y.f, .int .i64 y.nx])).run Try.prog w = .ok (.bool false) w := by
  have h := eqEntry_self y w
  rw [run_eql_struct] at h
  rw [run_neq_struct]
  generalize (Op.equalIn 10000 37 (.agg #[.bool y.e.a.v6, .int .u64 y.e.a.hi, .int .u64 y.e.a.lo, .int .i64 y.e.n, .int .i64 y.st, .int .i64 y.f, .int .i64 y.nx]) (.agg #[.bool y.e.a.v6, .int .u64 y.e.a.hi, .int .u64 y.e.a.lo, .int .i64 y.e.n, .int .i64 y.st, .int .i64 y.f, .int .i64 y.nx])).run Try.prog w = r at h
  cases r with
  | ok x w' =>
    simp only [Result.andThen_ok, Result.ok.injEq, Value.bool.injEq] at h ⊢
    obtain ⟨rfl, rfl⟩ := h
    exact ⟨rfl, rfl⟩
  | halt x w' => cases h
section
variable {P : Program}
/-- 'append(s, make([]T, n)...)' at a nil slice. -/
theorem run_append_zeros (w : World) (t u ty e : TypeId) (i : TypeInfo) (z : Value) (kd : IntKind) (ht : P.underlying t = some (.slice e)) (hu : P.underlying u = some (.int kd)) (hi : P.info? e = some i) (hz : i.zero = some z)
    (n : Nat) (h0 : 0 < n) (hs : 0 < i.size) (h63 : (n : Int) ≤ 9223372036854775807) (h48 : n * i.bytes ≤ 281474976710656) :
    (Builtin.append_ #[t, u] ty #[.slice none 0 0, .int .i64 n]).run P w =
      .ok (.slice (some ⟨w.heap.size, 0, none⟩) n (grownCap w n 0 e)) (w.drew.alloc (.cells (Builtin.zeroCells z.cells n ++ Builtin.zeroCells z.cells (grownCap w n 0 e - n)) e)) := by
  have hn : n ≠ 0 := by omega
  have hw : IntKind.i64.wrap (n : Int) = (n : Int) := by rw [IntKind.wrap_i64]; omega
  have hng : ¬ ((n : Int) < 0) := by omega
  have h48' : ¬ (281474976710656 < Builtin.nextslicecap n 0 * i.bytes) := by rw [nextslicecap_zero h0]; omega
  have h48'' : ¬ (281474976710656 < (n : Int) * (i.bytes : Int)) := by
    have : ((n * i.bytes : Nat) : Int) ≤ 281474976710656 := by omega
    rw [Int.natCast_mul] at this
    omega
  have hm : ¬ (n * i.size = 0) := by
    intro h
    rcases Nat.mul_eq_zero.1 h with h | h <;> omega
  have h63' : ¬ (9223372036854775807 < (n : Int)) := by omega
  have hmx : max (n : Int) 0 = (n : Int) := by omega
  simp [Builtin.append_, run_underlying ht, run_underlying hu, sizeOf, typeInfo, zeroValue, hi, hz, asInt, asIntOf, hw, hng, hn, hm, h48', h48'', h63', hmx, Question.forced, run_firstCells_none, newRow, grownCap]
theorem wpList_append_run2 {w : World} {ops : Array Oper} {rest : List Oper} {o : Oper} {a : Act} {Q : Exit → Act → World → Prop} (hgd : o.guard = none) (s x : Operand) (t u ty : TypeId)
    (ho : o.op = .call { callee := .builtin .append, args := #[s, x], argTypes := #[t, u] }) (hty : o.type = ty) (vs vx v : Value) (w' : World) (hs : a.eval s = vs) (hx : a.eval x = vx)
    (hrun : (Builtin.append_ #[t, u] ty #[vs, vx]).run P w = .ok v w') (h : wpList P ops Q rest (a.put o.dst v) w') : wpList P ops Q (o :: rest) a w := by
  subst hty
  refine wpList_plain hgd fun K hK => ?_
  unfold Oper.wp
  simp [execOp, ho, resolve, invoke, builtin, hs, hx, hrun, Result.andThen]
  exact hK _ _ h
end
theorem eql_nilY (a : Option Addr) (l c : Nat) (w : World) : (binOp .eql 22 (.slice a l c) (.slice none 0 0)).run Try.prog w = .ok (.bool a.isNone) w := by
  simp only [binOp]
  simp [run_equal_slice_nil w 22 37 a l c Try.underlying22]
end Go.Proofs.Ytgnjbbohphoojaa.Bo
/- Package book: follows, Find, place, Count, Right; slices.IndexFunc at entries. -/
namespace Go.Proofs.Ytgnjbbohphoojaa.Bo
set_option maxRecDepth 100000
open Go.ChangeShapes Go.WideShapes Go.ChangeAt Go.RowKit
open Ad Ci En Sat Bk Et Go.Deep
set_option linter.unusedVariables false
/-- What a function value tells of an entry, wherever all that lay below B is as it was. -/
def TellsY (g : Nat) (lb : Array Value) (p : Ey → Bool) (B : Nat) (w : World) : Prop :=
  ∀ (W : World) (x : Ey), x.ok → Below B w W → B ≤ W.heap.size → Calls Try.prog g (#[.agg #[.bool x.e.a.v6, .int .u64 x.e.a.hi, .int .u64 x.e.a.lo, .int .i64 x.e.n, .int .i64 x.st, .int .i64 x.f, .int .i64 x.nx]] ++ lb) W fun e w' => e = .returned (.bool (p x)) ∧ Below W.heap.size W w'
end Go.Proofs.Ytgnjbbohphoojaa.Bo
/- A map of ends; package book: set, Down. -/
namespace Go.Proofs.Ytgnjbbohphoojaa.Bo
set_option maxRecDepth 100000
open Go.ChangeShapes Go.WideShapes Go.ChangeAt Go.RowKit
open Go.ChangeMaps (setBlock shut_map_nil open_string shut_string keptBut_setBlock frozen?_setBlock heap_setBlock_same heap_setBlock_other)
open Ad Ci En Sat Bk Et Go.Deep
set_option linter.unusedVariables false
abbrev endV (e : Endp) : Value := .agg #[.bool e.a.v6, .int .u64 e.a.hi, .int .u64 e.a.lo, .int .i64 e.n]
def encD (e : Endp) : List Value := [.bool e.a.v6, .int .u64 e.a.hi, .int .u64 e.a.lo, .int .i64 e.n]
theorem encD_len (e : Endp) : (encD e).length = 4 := rfl
abbrev Ends (w : World) (v : Value) (l : List Endp) : Prop := Recs 4 encD w v l
theorem end_at {w : World} {bb o : Nat} {l : List Endp} {wr : World} (hlow : Below w.heap.size w wr) (hb : bb < w.heap.size) (hcc : ∀ i (h : i < l.length) j u, (encD l[i])[j]? = some u → w.cell? ⟨bb, o + i * 4 + j, none⟩ = some u) {i : Nat} (hi : i < l.length) {j : Nat} {u : Value} (hu : (encD l[i]!)[j]? = some u) : wr.cell? ⟨bb, o + i * 4 + j, none⟩ = some u := by
  rw [getElem!_pos l i hi] at hu
  exact (hlow.cell (p := ⟨bb, o + i * 4 + j, none⟩) hb).trans (hcc i hi j u hu)
/-- Block b is a map that says 'true' of the ends of which S is true. -/
def MapE (b : Nat) (w : World) (S : Endp → Bool) : Prop := ∃ es clock, ∃ L : List Endp, w.heap[b]? = some (.map es clock) ∧ es.toList.map (fun e => (e.key, e.val)) = L.map (fun x => (endV x, Value.bool true)) ∧ ∀ e, hasR L e = S e
theorem MapE.on {b : Nat} {w w' : World} {S : Endp → Bool} (h : MapE b w S) (hb : Below w.heap.size w w') : MapE b w' S := by
  obtain ⟨es, c, L, h1, h2⟩ := h
  exact ⟨es, c, L, (hb.block b (lt_of_block h1)).trans h1, h2⟩
theorem MapE.but {b g : Nat} {w w' : World} {S : Endp → Bool} (h : MapE b w S) (hb : Bt g w w') (hg : b ≠ g) : MapE b w' S := by
  obtain ⟨es, c, L, h1, h2⟩ := h
  exact ⟨es, c, L, (hb.block b hg (lt_of_block h1)).trans h1, h2⟩
theorem MapE.lt {b : Nat} {w : World} {S : Endp → Bool} (h : MapE b w S) : b < w.heap.size := by
  obtain ⟨es, c, L, h1, h2⟩ := h
  exact lt_of_block h1
theorem MapE.new (w : World) : MapE w.heap.size (w.alloc (.map #[] 0)) (hasR []) := ⟨#[], 0, [], by show (w.heap.push _)[w.heap.size]? = _; exact Array.getElem?_push_size, rfl, fun _ => rfl⟩
theorem checkE_run (em : Bool) (n : Endp) (w : World) : (Instr.checkKey em 10000 33 (endV n)).run Try.prog w = .ok () w := by
  cases em <;> kernel_rfl
theorem sameE_turn (m n : Endp) : sameE m n = sameE n m := by rw [Bool.eq_iff_iff, sameE_iff, sameE_iff]; exact eq_comm
def ixM (L : List Endp) (n : Endp) : Nat := L.findIdx fun x => sameE x n
theorem ixM_has (L : List Endp) (n : Endp) : hasR L n = decide (ixM L n < L.length) := by
  unfold hasR ixM
  rw [Bool.eq_iff_iff, decide_eq_true_iff, List.findIdx_lt_length, List.any_eq_true]
theorem askE_run (n : Endp) (w : World) : ∀ (es : List MapEntry) (L : List Endp) (i : Nat), es.map (fun e => (e.key, e.val)) = L.map (fun x => (endV x, Value.bool true)) →
    (Instr.findAsking 33 (endV n) es i).run Try.prog w = .ok (if ixM L n < L.length then some (i + ixM L n, .bool true) else none) w
  | [], [], i, _ => by rw [if_neg (show ¬ ixM [] n < ([] : List Endp).length from Nat.not_lt_zero _)]; rfl
  | [], _ :: _, _, h => by simp at h
  | _ :: _, [], _, h => by simp at h
  | e :: es, x :: L, i, h => by
    simp only [List.map_cons, List.cons.injEq, Prod.mk.injEq] at h
    obtain ⟨⟨h1, h2⟩, h3⟩ := h
    have he : (Op.equal 33 (endV n) e.key).run Try.prog w = .ok (sameE n x) w := by
      rw [h1]; exact eqInEnd 9997 n x w
    have ih := askE_run n w es L (i + 1) h3
    unfold Instr.findAsking
    simp only [Sem.run_bind, he, Result.andThen_ok]
    cases hs : sameE n x
    · have hs2 : sameE x n = false := by rw [← hs]; exact sameE_turn _ _
      rw [if_neg (by simp)]
      rw [ih]
      unfold ixM
      rw [List.findIdx_cons, hs2]
      simp only [cond_false, List.length_cons]
      by_cases hl : L.findIdx (fun b => sameE b n) < L.length
      · rw [if_pos hl, if_pos (by omega)]
        congr 3; omega
      · rw [if_neg hl, if_neg (by omega)]
    · have hs2 : sameE x n = true := by rw [← hs]; exact sameE_turn _ _
      rw [if_pos rfl]
      unfold ixM
      rw [List.findIdx_cons, hs2]
      simp [h2]
theorem findE_run (n : Endp) (w : World) (es : List MapEntry) (L : List Endp) (h : es.map (fun e => (e.key, e.val)) = L.map (fun x => (endV x, Value.bool true))) :
    (Instr.findKey 33 (endV n) es).run Try.prog w = .ok (if ixM L n < L.length then some (ixM L n, .bool true) else none) w := by
  have ha := askE_run n w es L 0 h
  rw [Nat.zero_add] at ha
  unfold Instr.findKey
  simp only [Sem.run_bind, run_underlying Try.underlying33, Result.andThen_ok]
  match es, L, h with
  | [], [], _ => rw [if_neg (show ¬ ixM [] n < ([] : List Endp).length from Nat.not_lt_zero _)]; rfl
  | [], _ :: _, h => simp at h
  | _ :: _, [], h => simp at h
  | e :: es, x :: L, h => exact ha
theorem same_bitsE (n : Endp) : Instr.sameBits 10000 (endV n) (endV n) = true := by simp [Instr.sameBits]
theorem staysE_run (n : Endp) (w : World) : (Instr.keyThatStays (endV n) (endV n)).run Try.prog w = .ok (endV n) w := by
  unfold Instr.keyThatStays
  rw [same_bitsE, if_pos rfl]; rfl
theorem map_modify_same {α β : Type} (f : α → α) (g : α → β) : ∀ (l : List α) (i : Nat), (∀ x, l[i]? = some x → g (f x) = g x) → (l.modify i f).map g = l.map g
  | [], i, _ => by simp
  | a :: l, 0, h => by rw [List.modify_zero_cons, List.map_cons, List.map_cons, h a rfl]
  | a :: l, i + 1, h => by rw [List.modify_succ_cons, List.map_cons, List.map_cons, map_modify_same f g l i (fun x hx => h x (by simpa using hx))]
end Go.Proofs.Ytgnjbbohphoojaa.Bo
/- Package book: Set, Add. -/
namespace Go.Proofs.Ytgnjbbohphoojaa.Bo
set_option maxRecDepth 100000
open Go.ChangeShapes Go.WideShapes Go.ChangeAt Go.RowKit
open Ad Ci En Sat Bk Et Go.Deep
set_option linter.unusedVariables false
theorem ownY_on {B : Nat} {w w' : World} {v : Value} {l : List Ey} (h : OwnY B w v l) (hb : Below w.heap.size w w') : OwnY B w' v l := by
  obtain ⟨hlen, h0 | ⟨g, cap, cur, e1, hbg, hgw, hr⟩⟩ := h
  · exact ⟨hlen, Or.inl h0⟩
  · exact ⟨hlen, Or.inr ⟨g, cap, cur, e1, hbg, (hb.block g (lt_of_block hgw)).trans hgw, hr⟩⟩
abbrev SA26 (w w4 : World) (y : Ey) (w' : World) : Prop := w'.cell? ⟨w.heap.size, 0, none⟩ = some (.bool y.e.a.v6) ∧ w'.cell? ⟨w.heap.size, 1, none⟩ = some (.int .u64 y.e.a.hi) ∧ w'.cell? ⟨w.heap.size, 2, none⟩ = some (.int .u64 y.e.a.lo) ∧ w'.cell? ⟨w.heap.size, 3, none⟩ = some (.int .i64 y.e.n) ∧ w'.cell? ⟨w.heap.size, 4, none⟩ = some (.int .i64 y.st) ∧ w'.cell? ⟨w.heap.size, 5, none⟩ = some (.int .i64 y.f) ∧ w'.cell? ⟨w.heap.size, 6, none⟩ = some (.int .i64 y.nx) ∧ Lows w4 w'
end Go.Proofs.Ytgnjbbohphoojaa.Bo
