/- The first statement of layer 18, proved: who counts, who stands ahead of whom, who stands first, and ranks, of any peers, are as the document has them; for all lists of peers and all that may be asked. -/
import Derived.Test.YthpimcnbfhogdaaLaw18
namespace Go.Proofs.Ythpimcnbfhogdaa
set_option maxRecDepth 100000
open Go.ChangeShapes Go.WideShapes Go.ChangeAt Go.RowKit
open Dec Words V4 V6 Ad Ci En Sat Ha Pe Stb Gr Mi Ra Go.Deep
set_option linter.unusedVariables false
abbrev S18 (w : World) (b n a : Int) (s : Nat) (w' : World) : Prop := w'.cell? ⟨w.heap.size, 0, none⟩ = some (.int .i64 b) ∧ w'.cell? ⟨w.heap.size, 1, none⟩ = some (.int .i64 n) ∧ w'.cell? ⟨w.heap.size, 2, none⟩ = some (.int .i64 a) ∧ w'.cell? ⟨w.heap.size, 3, none⟩ = some (.int .u64 (s : Nat)) ∧ Lows (w.alloc (.cells #[.int .i64 b, .int .i64 n, .int .i64 a, .int .u64 (s : Nat)] 25)) w'
set_option maxHeartbeats 16000000 in
theorem rankTells_walk (w : World) (v : Value) (l : List Pr) (h : Peers w v l) (hok : ∀ x ∈ l, x.ok) (b n a : Int) (s : Nat) (hb : (-9223372036854775808 ≤ b ∧ b ≤ 9223372036854775807)) (hn : (-9223372036854775808 ≤ n ∧ n ≤ 9223372036854775807)) (ha : (-9223372036854775808 ≤ a ∧ a ≤ 9223372036854775807)) (hs : s < 18446744073709551616) :
    Calls Try.prog 3 #[v, .agg #[.int .i64 b, .int .i64 n, .int .i64 a, .int .u64 (s : Nat)]] w fun e w' => e = .returned (.bool true) ∧ Below w.heap.size w w' := by
  have PW := Lib.hid h
  have AW := Lib.hid (fun W => awake18_any W)
  obtain ⟨A, c, rfl, hc, _, hcell⟩ := h
  have HC := Lib.hid hcell
  have HOK := Lib.hid hok
  have HS := Lib.hid hs
  have OB : Hid (Blk (w.alloc (.cells #[.int .i64 b, .int .i64 n, .int .i64 a, .int .u64 (s : Nat)] 25)) w.heap.size 25 [.int .i64 b, .int .i64 n, .int .i64 a, .int .u64 (s : Nat)]) := Lib.hid (Blk.new w #[.int .i64 b, .int .i64 n, .int .i64 a, .int .u64 (s : Nat)] 25)
  have L0 : Hid (Lows w (w.alloc (.cells #[.int .i64 b, .int .i64 n, .int .i64 a, .int .u64 (s : Nat)] 25))) := Lib.hid (Lows.alloc (Lows.self w) _)
  clear hcell hok hs hb hn ha
  by_cases h30 : 30 < l.length
  · have h30z : (30 : Int) < (l.length : Int) := by omega
    go_enter Try.func3, Try.ntmps3
    go_wp2_with fail
    refine (AW.out _).mono ?_; rintro e w1 ⟨rfl, hb1⟩
    go_wp2_with fail
    go_ret
    exact ⟨rfl, low_trans L0.out hb1⟩
  · have h30z : ¬ (30 : Int) < (l.length : Int) := by omega
    have hl1 : l.length ≤ 1000000 := by omega
    go_enter Try.func3, Try.ntmps3
    go_wp2_with fail
    go_loopw [5] (fun vi wr => ∃ i : Nat, vi = .int .i64 i ∧ i ≤ l.length ∧ Hid (Lows (w.alloc (.cells #[.int .i64 b, .int .i64 n, .int .i64 a, .int .u64 (s : Nat)] 25)) wr)) (fun vi _ => l.length - (intOf vi).toNat)
    case atStart => exact ⟨0, rfl, Nat.zero_le _, Lib.hid (Lows.self _)⟩
    case round =>
      obtain ⟨i, rfl, hi, HL⟩ := hrel
      by_cases hli : i < l.length
      · have hliz : (i : Int) < (l.length : Int) := by omega
        have HLW : Hid (Below w.heap.size w wr) := Lib.hid (low_trans L0.out HL.out)
        obtain ⟨bb, o, rfl, hb9, hcc⟩ := HC.out (by omega)
        by_cases hi0 : 0 < i
        · have hi0z : (0 : Int) < (i : Int) := by omega
          obtain ⟨q, hq⟩ : ∃ q : Nat, q = i - 1 := ⟨_, rfl⟩
          have eq : (i : Int) - 1 = (q : Int) := by omega
          have hlq : q < l.length := by omega
          have hlqz : (q : Int) < (l.length : Int) := by omega
          clear hq
          have hne : Nonempty (Cls (Lows wr)) := ⟨⟨_, Lows.self _⟩⟩
          obtain ⟨x, hx⟩ : ∃ x, x = l[i]! := ⟨_, rfl⟩
          have hokx : x.ok := by rw [hx, getElem!_pos l i hli]; exact HOK.out _ (List.getElem_mem _)
          have f0 : ∀ nq : Cls (Lows wr), nq.w.cell? ⟨bb, o + i * 10, none⟩ = some (.bool x.e.a.v6) := fun nq => by rw [hx]; exact peer_at (low_trans'' HLW.out nq.h) hb9 hcc hli (j := 0) rfl
          have f1 : ∀ nq : Cls (Lows wr), nq.w.cell? ⟨bb, o + i * 10 + 1, none⟩ = some (.int .u64 x.e.a.hi) := fun nq => by rw [hx]; exact peer_at (low_trans'' HLW.out nq.h) hb9 hcc hli (j := 1) rfl
          have f2 : ∀ nq : Cls (Lows wr), nq.w.cell? ⟨bb, o + i * 10 + 2, none⟩ = some (.int .u64 x.e.a.lo) := fun nq => by rw [hx]; exact peer_at (low_trans'' HLW.out nq.h) hb9 hcc hli (j := 2) rfl
          have f3 : ∀ nq : Cls (Lows wr), nq.w.cell? ⟨bb, o + i * 10 + 3, none⟩ = some (.int .i64 x.e.n) := fun nq => by rw [hx]; exact peer_at (low_trans'' HLW.out nq.h) hb9 hcc hli (j := 3) rfl
          have f4 : ∀ nq : Cls (Lows wr), nq.w.cell? ⟨bb, o + i * 10 + 4, none⟩ = some (.bool x.i) := fun nq => by rw [hx]; exact peer_at (low_trans'' HLW.out nq.h) hb9 hcc hli (j := 4) rfl
          have f5 : ∀ nq : Cls (Lows wr), nq.w.cell? ⟨bb, o + i * 10 + 5, none⟩ = some (.int .i64 x.t) := fun nq => by rw [hx]; exact peer_at (low_trans'' HLW.out nq.h) hb9 hcc hli (j := 5) rfl
          have f6 : ∀ nq : Cls (Lows wr), nq.w.cell? ⟨bb, o + i * 10 + 6, none⟩ = some (.int .i64 x.c.p) := fun nq => by rw [hx]; exact peer_at (low_trans'' HLW.out nq.h) hb9 hcc hli (j := 6) rfl
          have f7 : ∀ nq : Cls (Lows wr), nq.w.cell? ⟨bb, o + i * 10 + 7, none⟩ = some (.int .i64 x.c.a) := fun nq => by rw [hx]; exact peer_at (low_trans'' HLW.out nq.h) hb9 hcc hli (j := 7) rfl
          have f8 : ∀ nq : Cls (Lows wr), nq.w.cell? ⟨bb, o + i * 10 + 8, none⟩ = some (.int .i64 x.g) := fun nq => by rw [hx]; exact peer_at (low_trans'' HLW.out nq.h) hb9 hcc hli (j := 8) rfl
          have f9 : ∀ nq : Cls (Lows wr), nq.w.cell? ⟨bb, o + i * 10 + 9, none⟩ = some (.int .i64 x.k) := fun nq => by rw [hx]; exact peer_at (low_trans'' HLW.out nq.h) hb9 hcc hli (j := 9) rfl
          have Hx := Lib.hid hx
          clear hx
          obtain ⟨z, hz⟩ : ∃ x, x = l[q]! := ⟨_, rfl⟩
          have hokz : z.ok := by rw [hz, getElem!_pos l q hlq]; exact HOK.out _ (List.getElem_mem _)
          have e0 : ∀ nq : Cls (Lows wr), nq.w.cell? ⟨bb, o + q * 10, none⟩ = some (.bool z.e.a.v6) := fun nq => by rw [hz]; exact peer_at (low_trans'' HLW.out nq.h) hb9 hcc hlq (j := 0) rfl
          have e1 : ∀ nq : Cls (Lows wr), nq.w.cell? ⟨bb, o + q * 10 + 1, none⟩ = some (.int .u64 z.e.a.hi) := fun nq => by rw [hz]; exact peer_at (low_trans'' HLW.out nq.h) hb9 hcc hlq (j := 1) rfl
          have e2 : ∀ nq : Cls (Lows wr), nq.w.cell? ⟨bb, o + q * 10 + 2, none⟩ = some (.int .u64 z.e.a.lo) := fun nq => by rw [hz]; exact peer_at (low_trans'' HLW.out nq.h) hb9 hcc hlq (j := 2) rfl
          have e3 : ∀ nq : Cls (Lows wr), nq.w.cell? ⟨bb, o + q * 10 + 3, none⟩ = some (.int .i64 z.e.n) := fun nq => by rw [hz]; exact peer_at (low_trans'' HLW.out nq.h) hb9 hcc hlq (j := 3) rfl
          have e4 : ∀ nq : Cls (Lows wr), nq.w.cell? ⟨bb, o + q * 10 + 4, none⟩ = some (.bool z.i) := fun nq => by rw [hz]; exact peer_at (low_trans'' HLW.out nq.h) hb9 hcc hlq (j := 4) rfl
          have e5 : ∀ nq : Cls (Lows wr), nq.w.cell? ⟨bb, o + q * 10 + 5, none⟩ = some (.int .i64 z.t) := fun nq => by rw [hz]; exact peer_at (low_trans'' HLW.out nq.h) hb9 hcc hlq (j := 5) rfl
          have e6 : ∀ nq : Cls (Lows wr), nq.w.cell? ⟨bb, o + q * 10 + 6, none⟩ = some (.int .i64 z.c.p) := fun nq => by rw [hz]; exact peer_at (low_trans'' HLW.out nq.h) hb9 hcc hlq (j := 6) rfl
          have e7 : ∀ nq : Cls (Lows wr), nq.w.cell? ⟨bb, o + q * 10 + 7, none⟩ = some (.int .i64 z.c.a) := fun nq => by rw [hz]; exact peer_at (low_trans'' HLW.out nq.h) hb9 hcc hlq (j := 7) rfl
          have e8 : ∀ nq : Cls (Lows wr), nq.w.cell? ⟨bb, o + q * 10 + 8, none⟩ = some (.int .i64 z.g) := fun nq => by rw [hz]; exact peer_at (low_trans'' HLW.out nq.h) hb9 hcc hlq (j := 8) rfl
          have e9 : ∀ nq : Cls (Lows wr), nq.w.cell? ⟨bb, o + q * 10 + 9, none⟩ = some (.int .i64 z.k) := fun nq => by rw [hz]; exact peer_at (low_trans'' HLW.out nq.h) hb9 hcc hlq (j := 9) rfl
          have Hz := Lib.hid hz
          clear hz
          have g0 : ∀ nq : Cls (Lows wr), nq.w.cell? ⟨w.heap.size, 0, none⟩ = some (.int .i64 b) := fun nq => Blk.in OB (low_trans HL.out nq.h) rfl
          have g1 : ∀ nq : Cls (Lows wr), nq.w.cell? ⟨w.heap.size, 1, none⟩ = some (.int .i64 n) := fun nq => Blk.in OB (low_trans HL.out nq.h) rfl
          have g2 : ∀ nq : Cls (Lows wr), nq.w.cell? ⟨w.heap.size, 2, none⟩ = some (.int .i64 a) := fun nq => Blk.in OB (low_trans HL.out nq.h) rfl
          have g3 : ∀ nq : Cls (Lows wr), nq.w.cell? ⟨w.heap.size, 3, none⟩ = some (.int .u64 (s : Nat)) := fun nq => Blk.in OB (low_trans HL.out nq.h) rfl
          have KC : Hid (∀ W, Calls Try.prog 6 #[.agg #[.bool x.e.a.v6, .int .u64 x.e.a.hi, .int .u64 x.e.a.lo, .int .i64 x.e.n, .bool x.i, .int .i64 x.t, .int .i64 x.c.p, .int .i64 x.c.a, .int .i64 x.g, .int .i64 x.k], .int .i64 b] W fun e w' => e = .returned (.bool (countsR x b)) ∧ Below W.heap.size W w') := Lib.hid fun W => counts_any x b W
          have KRC : Hid (∀ W, Calls Try.prog 7 #[.agg #[.bool x.e.a.v6, .int .u64 x.e.a.hi, .int .u64 x.e.a.lo, .int .i64 x.e.n, .bool x.i, .int .i64 x.t, .int .i64 x.c.p, .int .i64 x.c.a, .int .i64 x.g, .int .i64 x.k], .int .i64 b] W fun e w' => e = .returned (.bool (countsR x b)) ∧ Below W.heap.size W w') := Lib.hid fun W => rcounts_any x b W
          have KA : Hid (∀ W, Calls Try.prog 8 #[.agg #[.bool z.e.a.v6, .int .u64 z.e.a.hi, .int .u64 z.e.a.lo, .int .i64 z.e.n, .bool z.i, .int .i64 z.t, .int .i64 z.c.p, .int .i64 z.c.a, .int .i64 z.g, .int .i64 z.k], .agg #[.bool x.e.a.v6, .int .u64 x.e.a.hi, .int .u64 x.e.a.lo, .int .i64 x.e.n, .bool x.i, .int .i64 x.t, .int .i64 x.c.p, .int .i64 x.c.a, .int .i64 x.g, .int .i64 x.k], .int .i64 b, .int .u64 (s : Nat)] W fun e w' => e = .returned (.bool (aheadR z x b s)) ∧ Below W.heap.size W w') := Lib.hid fun W => ahead_any z x b s W hokz hokx HS.out
          have KRA : Hid (∀ W, Calls Try.prog 9 #[.agg #[.bool z.e.a.v6, .int .u64 z.e.a.hi, .int .u64 z.e.a.lo, .int .i64 z.e.n, .bool z.i, .int .i64 z.t, .int .i64 z.c.p, .int .i64 z.c.a, .int .i64 z.g, .int .i64 z.k], .agg #[.bool x.e.a.v6, .int .u64 x.e.a.hi, .int .u64 x.e.a.lo, .int .i64 x.e.n, .bool x.i, .int .i64 x.t, .int .i64 x.c.p, .int .i64 x.c.a, .int .i64 x.g, .int .i64 x.k], .int .i64 b, .int .u64 (s : Nat)] W fun e w' => e = .returned (.bool (aheadR z x b s)) ∧ Below W.heap.size W w') := Lib.hid fun W => rahead_any z x b s W hokz hokx HS.out
          generalize countsR x b = cq at KC KRC
          have zc1 : (cq == cq) = true := by simp
          have zc2 : (!(cq == cq)) = false := by simp
          have zc3 : (cq != cq) = false := by simp
          generalize aheadR z x b s = aq at KA KRA
          have za1 : (aq == aq) = true := by simp
          have za2 : (!(aq == aq)) = false := by simp
          have za3 : (aq != aq) = false := by simp
          clear hokx hokz hcc hb9
          go_wp2_with fail
          refine Cls.region (Lows wr) (by kernel_rfl) (by kernel_rfl) (low_drewN (Below.refl _ _) 1) ?_
          (try dsimp only [List.append])
          repeat (go_big_quiet_step (first | fail | (with_reducible exact Cls.call ((lows_call KC).out _ (Cls.h _))) | (with_reducible exact Cls.call ((lows_call KRC).out _ (Cls.h _))) | (with_reducible exact Cls.call ((lows_call KA).out _ (Cls.h _))) | (with_reducible exact Cls.call ((lows_call KRA).out _ (Cls.h _)))))
          refine wpQuiet_nil ?_
          intro n9
          have hk9 := n9.h
          generalize n9.w = w9 at hk9 ⊢
          clear hne n9 f0 f1 f2 f3 f4 f5 f6 f7 f8 f9 e0 e1 e2 e3 e4 e5 e6 e7 e8 e9 g0 g1 g2 g3 KC KRC KA KRA
          go_wp2_with fail
          go_roundw
          case rel => exact ⟨i + 1, by go_num, by omega, Lib.hid (low_trans HL.out hk9)⟩
          case measure => simp [intOf]; omega
        · have hi0z : decide ((0 : Int) < (i : Int)) = false := decide_eq_false (by omega)
          have hi0y : ¬ (0 : Int) < (i : Int) := by omega
          have hne : Nonempty (Cls (Lows wr)) := ⟨⟨_, Lows.self _⟩⟩
          obtain ⟨x, hx⟩ : ∃ x, x = l[i]! := ⟨_, rfl⟩
          have hokx : x.ok := by rw [hx, getElem!_pos l i hli]; exact HOK.out _ (List.getElem_mem _)
          have f0 : ∀ nq : Cls (Lows wr), nq.w.cell? ⟨bb, o + i * 10, none⟩ = some (.bool x.e.a.v6) := fun nq => by rw [hx]; exact peer_at (low_trans'' HLW.out nq.h) hb9 hcc hli (j := 0) rfl
          have f1 : ∀ nq : Cls (Lows wr), nq.w.cell? ⟨bb, o + i * 10 + 1, none⟩ = some (.int .u64 x.e.a.hi) := fun nq => by rw [hx]; exact peer_at (low_trans'' HLW.out nq.h) hb9 hcc hli (j := 1) rfl
          have f2 : ∀ nq : Cls (Lows wr), nq.w.cell? ⟨bb, o + i * 10 + 2, none⟩ = some (.int .u64 x.e.a.lo) := fun nq => by rw [hx]; exact peer_at (low_trans'' HLW.out nq.h) hb9 hcc hli (j := 2) rfl
          have f3 : ∀ nq : Cls (Lows wr), nq.w.cell? ⟨bb, o + i * 10 + 3, none⟩ = some (.int .i64 x.e.n) := fun nq => by rw [hx]; exact peer_at (low_trans'' HLW.out nq.h) hb9 hcc hli (j := 3) rfl
          have f4 : ∀ nq : Cls (Lows wr), nq.w.cell? ⟨bb, o + i * 10 + 4, none⟩ = some (.bool x.i) := fun nq => by rw [hx]; exact peer_at (low_trans'' HLW.out nq.h) hb9 hcc hli (j := 4) rfl
          have f5 : ∀ nq : Cls (Lows wr), nq.w.cell? ⟨bb, o + i * 10 + 5, none⟩ = some (.int .i64 x.t) := fun nq => by rw [hx]; exact peer_at (low_trans'' HLW.out nq.h) hb9 hcc hli (j := 5) rfl
          have f6 : ∀ nq : Cls (Lows wr), nq.w.cell? ⟨bb, o + i * 10 + 6, none⟩ = some (.int .i64 x.c.p) := fun nq => by rw [hx]; exact peer_at (low_trans'' HLW.out nq.h) hb9 hcc hli (j := 6) rfl
          have f7 : ∀ nq : Cls (Lows wr), nq.w.cell? ⟨bb, o + i * 10 + 7, none⟩ = some (.int .i64 x.c.a) := fun nq => by rw [hx]; exact peer_at (low_trans'' HLW.out nq.h) hb9 hcc hli (j := 7) rfl
          have f8 : ∀ nq : Cls (Lows wr), nq.w.cell? ⟨bb, o + i * 10 + 8, none⟩ = some (.int .i64 x.g) := fun nq => by rw [hx]; exact peer_at (low_trans'' HLW.out nq.h) hb9 hcc hli (j := 8) rfl
          have f9 : ∀ nq : Cls (Lows wr), nq.w.cell? ⟨bb, o + i * 10 + 9, none⟩ = some (.int .i64 x.k) := fun nq => by rw [hx]; exact peer_at (low_trans'' HLW.out nq.h) hb9 hcc hli (j := 9) rfl
          have Hx := Lib.hid hx
          clear hx
          have g0 : ∀ nq : Cls (Lows wr), nq.w.cell? ⟨w.heap.size, 0, none⟩ = some (.int .i64 b) := fun nq => Blk.in OB (low_trans HL.out nq.h) rfl
          have g1 : ∀ nq : Cls (Lows wr), nq.w.cell? ⟨w.heap.size, 1, none⟩ = some (.int .i64 n) := fun nq => Blk.in OB (low_trans HL.out nq.h) rfl
          have g2 : ∀ nq : Cls (Lows wr), nq.w.cell? ⟨w.heap.size, 2, none⟩ = some (.int .i64 a) := fun nq => Blk.in OB (low_trans HL.out nq.h) rfl
          have g3 : ∀ nq : Cls (Lows wr), nq.w.cell? ⟨w.heap.size, 3, none⟩ = some (.int .u64 (s : Nat)) := fun nq => Blk.in OB (low_trans HL.out nq.h) rfl
          have KC : Hid (∀ W, Calls Try.prog 6 #[.agg #[.bool x.e.a.v6, .int .u64 x.e.a.hi, .int .u64 x.e.a.lo, .int .i64 x.e.n, .bool x.i, .int .i64 x.t, .int .i64 x.c.p, .int .i64 x.c.a, .int .i64 x.g, .int .i64 x.k], .int .i64 b] W fun e w' => e = .returned (.bool (countsR x b)) ∧ Below W.heap.size W w') := Lib.hid fun W => counts_any x b W
          have KRC : Hid (∀ W, Calls Try.prog 7 #[.agg #[.bool x.e.a.v6, .int .u64 x.e.a.hi, .int .u64 x.e.a.lo, .int .i64 x.e.n, .bool x.i, .int .i64 x.t, .int .i64 x.c.p, .int .i64 x.c.a, .int .i64 x.g, .int .i64 x.k], .int .i64 b] W fun e w' => e = .returned (.bool (countsR x b)) ∧ Below W.heap.size W w') := Lib.hid fun W => rcounts_any x b W
          generalize countsR x b = cq at KC KRC
          have zc1 : (cq == cq) = true := by simp
          have zc2 : (!(cq == cq)) = false := by simp
          have zc3 : (cq != cq) = false := by simp
          clear hokx hcc hb9
          go_wp2_with fail
          refine Cls.region (Lows wr) (by kernel_rfl) (by kernel_rfl) (low_drewN (Below.refl _ _) 1) ?_
          (try dsimp only [List.append])
          repeat (go_big_quiet_step (first | fail | (with_reducible exact Cls.call ((lows_call KC).out _ (Cls.h _))) | (with_reducible exact Cls.call ((lows_call KRC).out _ (Cls.h _)))))
          refine wpQuiet_nil ?_
          intro n9
          have hk9 := n9.h
          generalize n9.w = w9 at hk9 ⊢
          clear hne n9 f0 f1 f2 f3 f4 f5 f6 f7 f8 f9 g0 g1 g2 g3 KC KRC
          go_wp2_with fail
          go_roundw
          case rel => exact ⟨i + 1, by go_num, by omega, Lib.hid (low_trans HL.out hk9)⟩
          case measure => simp [intOf]; omega
      · have hliz : ¬ (i : Int) < (l.length : Int) := by omega
        have IN : ∀ w', Lows (w.alloc (.cells #[.int .i64 b, .int .i64 n, .int .i64 a, .int .u64 (s : Nat)] 25)) w' → S18 w b n a s w' := fun w' h => ⟨Blk.in OB h rfl, Blk.in OB h rfl, Blk.in OB h rfl, Blk.in OB h rfl, h⟩
        have PN : ∀ W, Lows (w.alloc (.cells #[.int .i64 b, .int .i64 n, .int .i64 a, .int .u64 (s : Nat)] 25)) W → Peers W (.slice A l.length c) l := fun W h => PW.out.below (low_trans L0.out h)
        have KF : Hid (∀ W, S18 w b n a s W → Calls Try.prog 11 #[.slice A l.length c, .int .i64 b, .int .i64 n, .int .u64 (s : Nat)] W fun e w' => ∃ u, e = .returned u ∧ NumsI w' u (firstR l b n s) ∧ Below W.heap.size W w' ∧ S18 w b n a s w') := Lib.hid fun W h => (first_any _ l b n s W (PN W h.2.2.2.2) HOK.out hl1 HS.out).mono fun e w' ⟨u, he, hu, hb⟩ => ⟨u, he, hu, hb, IN _ (low_trans h.2.2.2.2 hb)⟩
        have KRF : Hid (∀ W, S18 w b n a s W → Calls Try.prog 12 #[.slice A l.length c, .int .i64 b, .int .i64 n, .int .u64 (s : Nat)] W fun e w' => ∃ u, e = .returned u ∧ NumsI w' u (firstR l b n s) ∧ Below W.heap.size W w' ∧ S18 w b n a s w') := Lib.hid fun W h => (rfirst_any _ l b n s W (PN W h.2.2.2.2) HOK.out hl1 HS.out).mono fun e w' ⟨u, he, hu, hb⟩ => ⟨u, he, hu, hb, IN _ (low_trans h.2.2.2.2 hb)⟩
        have KI : Hid (∀ W u1 u2, NumsI W u1 (firstR l b n s) → NumsI W u2 (firstR l b n s) → S18 w b n a s W → Calls Try.prog 10 #[u1, u2] W fun e w' => e = .returned (.bool true) ∧ S18 w b n a s w') := Lib.hid fun W u1 u2 h1 h2 h => (sameInts_any u1 u2 (firstR l b n s) W h1 h2 (by
          have := ordR_le l b s
          unfold firstR
          rw [List.length_take]; omega) (fun x hx => by have := first_mem hx; omega)).mono fun e w' ⟨he, hb⟩ => ⟨he, IN _ (low_trans h.2.2.2.2 hb)⟩
        have KR : Hid (∀ W, S18 w b n a s W → Calls Try.prog 13 #[.slice A l.length c, .int .i64 a, .int .i64 b, .int .u64 (s : Nat)] W fun e w' => e = .returned (.int .i64 (rankR l a b s)) ∧ S18 w b n a s w') := Lib.hid fun W h => (rank_any _ l a b s W (PN W h.2.2.2.2) HOK.out hl1 HS.out).mono fun e w' ⟨he, hb⟩ => ⟨he, IN _ (low_trans h.2.2.2.2 hb)⟩
        have KRR : Hid (∀ W, S18 w b n a s W → Calls Try.prog 14 #[.slice A l.length c, .int .i64 a, .int .i64 b, .int .u64 (s : Nat)] W fun e w' => e = .returned (.int .i64 (rankR l a b s)) ∧ S18 w b n a s w') := Lib.hid fun W h => (rrank_any _ l a b s W (PN W h.2.2.2.2) HOK.out hl1 HS.out).mono fun e w' ⟨he, hb⟩ => ⟨he, IN _ (low_trans h.2.2.2.2 hb)⟩
        have KW : Hid (∀ W, S18 w b n a s W → Calls Try.prog 5 #[] W fun e w' => e = .returned (.bool true) ∧ S18 w b n a s w') := Lib.hid fun W h => (AW.out W).mono fun e w' ⟨he, hb⟩ => ⟨he, IN _ (low_trans h.2.2.2.2 hb)⟩
        have hk0 : S18 w b n a s wr := IN _ HL.out
        have JD : Hid (∀ W, S18 w b n a s W → S18 w b n a s W.drew) := Lib.hid fun W h => IN _ (low_drewN h.2.2.2.2 1)
        generalize rankR l a b s = RR at KR KRR
        have zr : (RR == RR) = true := by simp
        generalize firstR l b n s = FF at KF KRF KI
        clear IN PN
        obtain ⟨k0, k1, k2, k3, hsk⟩ := id hk0
        go_wp2_with fail
        go_region_held3 (fun w' => w'.cell? ⟨w.heap.size, 0, none⟩ = some (.int .i64 b) ∧ w'.cell? ⟨w.heap.size, 1, none⟩ = some (.int .i64 n) ∧ w'.cell? ⟨w.heap.size, 2, none⟩ = some (.int .i64 a) ∧ w'.cell? ⟨w.heap.size, 3, none⟩ = some (.int .u64 (s : Nat)) ∧ Lows (w.alloc (.cells #[.int .i64 b, .int .i64 n, .int .i64 a, .int .u64 (s : Nat)] 25)) w')
          (first | (with_reducible assumption) | (with_reducible exact JD.out _ (by with_reducible assumption)))
          (first
            | (go_at_call 11; (with_reducible refine (KF.out _ (by with_reducible assumption)).mono ?_); rintro e w9 ⟨u, rfl, hF, hbF, hkw⟩; (try have hG2 := hG.below hbF))
            | (go_at_call 12; (with_reducible refine (KRF.out _ (by with_reducible assumption)).mono ?_); rintro e w9 ⟨u, rfl, hG, hbG, hkw⟩; (try have hF2 := hF.below hbG))
            | (go_at_call 10; first
              | ((with_reducible refine (KI.out _ _ _ hF hG2 (by with_reducible assumption)).mono ?_); rintro e w9 ⟨rfl, hkw⟩)
              | ((with_reducible refine (KI.out _ _ _ hF2 hG (by with_reducible assumption)).mono ?_); rintro e w9 ⟨rfl, hkw⟩))
            | (go_at_call 13; (with_reducible refine (KR.out _ (by with_reducible assumption)).mono ?_); rintro e w9 ⟨rfl, hkw⟩)
            | (go_at_call 14; (with_reducible refine (KRR.out _ (by with_reducible assumption)).mono ?_); rintro e w9 ⟨rfl, hkw⟩)
            | (go_at_call 5; (with_reducible refine (KW.out _ (by with_reducible assumption)).mono ?_); rintro e w9 ⟨rfl, hkw⟩))
        all_goals
          have hkf := ‹S18 w b n a s _›
          go_wp2_with fail
          go_ret
          exact ⟨rfl, low_trans L0.out hkf.2.2.2.2⟩
namespace rankTells
theorem contract (H : Type) (enc : TypeId × Value → H) (W : World) (base : Nat) (args : Array Value) (ds gs : List (DataW H)) (before : List MemPlace)
    (hval0 : ∀ (j : Nat) t v, Try.f3.params[j]? = some t → args[j]? = some v → Value.okWide Try.prog W .any base t v)
    (hW : DataW.Whole enc Try.prog Try.f3.params.toList Rows.rankTellsSpec.vars false W args.toList ds gs before) (hSh : W.ShapedOpen Try.prog) :
    Calls Try.prog 3 args W fun e W' => ∃ v, e = .returned v ∧ Rows.rankTellsSpec.post enc Try.prog Try.f3 false true false false W args v W' := by
  have hval : ∀ (j : Nat) t v, Try.f3.params[j]? = some t → args[j]? = some v → Value.okWide Try.prog W .any base t v := hval0
  have hW' := hW
  obtain ⟨p, q, hA0, hV, _, _, _⟩ := hW
  have hA : DataW.TrodAll enc Try.prog W 0 (fun _ => true) true Try.f3.params.toList args.toList ds p := hA0
  rw [Try.params3] at hA hval
  obtain ⟨v0, vs0, d0, ds0, p0, q0, hargs, rfl, rfl, h0, r0⟩ := trodAll_cons hA
  obtain ⟨v1, vs1, d1, ds1, p1, q1, rfl, rfl, rfl, h1, r1⟩ := trodAll_cons r0
  obtain ⟨rfl, rfl, rfl⟩ := trodAll_nil r1
  obtain rfl : args = #[v0, v1] := by cases args; simp_all
  obtain ⟨rfl, rfl⟩ := trodVars_none hV
  obtain ⟨l0, t0, n0, s0⟩ := open_peers (hval 0 22 v0 rfl rfl) h0
  obtain ⟨i1, j1, k1, s1, y1, z1, x1, u1, rfl⟩ := open_asked18 (hval 1 25 v1 rfl rfl) h1
  clear hA0 hval0
  refine (rankTells_walk W v0 l0 t0 s0 i1 j1 k1 s1 y1 z1 x1 u1).mono fun e W' ⟨he, hg⟩ => ?_
  subst he
  exact ⟨_, rfl, post_law laidOut (by kernel_rfl) (by kernel_rfl) Try.underlying4 rfl hW' rfl rfl rfl hg⟩
set_option maxRecDepth 100000 in
theorem lifted (os : Os) (started : os.Started) (H : Type) (enc : TypeId × Value → H) (F : Stop.Interp) :
    ReturnsInHanded {} Try.checked os 3 .any ((OpenSpec.ofChange Rows.rankTellsSpec).preRow enc Try.prog Try.f3 Rows.rankTellsRow.domain false Rows.rankTellsRow.laid) (((OpenSpec.ofChange Rows.rankTellsSpec).at F).post enc Try.prog Try.f3 false true false false) := by
  refine returnsInHanded_of_row (C := Try.checked) (s := OpenSpec.ofChange Rows.rankTellsSpec) own started (by kernel_rfl) Try.func3
    (witness_laid (enc := enc) (C := Try.checked) (s := OpenSpec.ofChange Rows.rankTellsSpec) (laid := Rows.rankTellsRow.laid) #[.slice none 0 0, .agg #[.int .i64 0, .int .i64 0, .int .i64 0, .int .u64 0]] (World.shaped_of_ZipB (by kernel_rfl) (by kernel_rfl)) (by kernel_rfl)
      (OpenSpec.preRow_of_cond 8 (x := ([.nil, .agg [.lit (.int .i64 0), .lit (.int .i64 0), .lit (.int .i64 0), .lit (.int .u64 0)]], [], [])) (by kernel_rfl) (by kernel_rfl) (fun k hk => by cases hk) (by kernel_rfl)
        (by rw [MakeChecks.laidMetH_plain _ _ _ (by kernel_rfl)]; exact laidMet_laidAll _ (by kernel_rfl) (by kernel_rfl)))) ?_
  intro W base args ds gs before hval hW _ hcond _ _ hsh _
  exact contract H enc W base args ds gs before hval hW hsh
theorem over : Rows.rankTellsRow.holds Try.pinned (OpenSpec.ofChange Rows.rankTellsSpec) :=
  OpenClaim.holds_of_cond 3 Try.f3 rfl rfl rfl rfl rfl rfl rfl ⟨rfl, rfl, rfl, rfl, rfl⟩ rfl rfl rfl rfl rfl (by kernel_rfl) Try.func3 (by kernel_rfl)
    (of_decide_eq_true (by kernel_rfl)) (by unfold Func.isWrapper; first | (rw [if_pos (by decide +kernel)]; kernel_rfl) | (rw [if_neg (by decide +kernel)]; exact ⟨rfl, rfl⟩))
    (fun os started H enc _ F => by rw [OpenClaim.pre_eq_preRow]; exact lifted os started H enc F)
/-- ████ THE STATEMENT ████ -/
theorem proved : Rows.RankTellsSaid := over
end rankTells
end Go.Proofs.Ythpimcnbfhogdaa
