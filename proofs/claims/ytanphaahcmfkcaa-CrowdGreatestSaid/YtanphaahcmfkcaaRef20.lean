/- The document's answers for layer 20 (crowd), walked. -/
import Derived.Test.YtanphaahcmfkcaaCrowd
namespace Go.Proofs.Ytanphaahcmfkcaa.Cw
set_option maxRecDepth 100000
open Go.ChangeShapes Go.WideShapes Go.ChangeAt Go.RowKit
open Dec Words V4 V6 Ad Ci En Sat Ha Pe Stb Gr Mi Ra Go.Deep
set_option linter.unusedVariables false
set_option maxHeartbeats 8000000 in
theorem ryounger_any (x y : Pr) (w : World) (hx : x.ok) (hy : y.ok) : Calls Try.prog 9 #[.agg #[.bool x.e.a.v6, .int .u64 x.e.a.hi, .int .u64 x.e.a.lo, .int .i64 x.e.n, .bool x.i, .int .i64 x.t, .int .i64 x.c.p, .int .i64 x.c.a, .int .i64 x.g, .int .i64 x.k], .agg #[.bool y.e.a.v6, .int .u64 y.e.a.hi, .int .u64 y.e.a.lo, .int .i64 y.e.n, .bool y.i, .int .i64 y.t, .int .i64 y.c.p, .int .i64 y.c.a, .int .i64 y.g, .int .i64 y.k]] w fun e w' => e = .returned (.bool (youngR x y)) ∧ Below w.heap.size w w' := by
  have C2 := Lib.hid (fun W => rcompareE_any x.e y.e W hx.1 hy.1)
  have O1 := Lib.hid ((Blk.new w #[.bool x.e.a.v6, .int .u64 x.e.a.hi, .int .u64 x.e.a.lo, .int .i64 x.e.n, .bool x.i, .int .i64 x.t, .int .i64 x.c.p, .int .i64 x.c.a, .int .i64 x.g, .int .i64 x.k] 34).alloc (.cells #[.bool y.e.a.v6, .int .u64 y.e.a.hi, .int .u64 y.e.a.lo, .int .i64 y.e.n, .bool y.i, .int .i64 y.t, .int .i64 y.c.p, .int .i64 y.c.a, .int .i64 y.g, .int .i64 y.k] 34))
  have O2 := Lib.hid (Blk.two w (.cells #[.bool x.e.a.v6, .int .u64 x.e.a.hi, .int .u64 x.e.a.lo, .int .i64 x.e.n, .bool x.i, .int .i64 x.t, .int .i64 x.c.p, .int .i64 x.c.a, .int .i64 x.g, .int .i64 x.k] 34) #[.bool y.e.a.v6, .int .u64 y.e.a.hi, .int .u64 y.e.a.lo, .int .i64 y.e.n, .bool y.i, .int .i64 y.t, .int .i64 y.c.p, .int .i64 y.c.a, .int .i64 y.g, .int .i64 y.k] 34)
  have L0 : Hid (Lows w ((w.alloc (.cells #[.bool x.e.a.v6, .int .u64 x.e.a.hi, .int .u64 x.e.a.lo, .int .i64 x.e.n, .bool x.i, .int .i64 x.t, .int .i64 x.c.p, .int .i64 x.c.a, .int .i64 x.g, .int .i64 x.k] 34)).alloc (.cells #[.bool y.e.a.v6, .int .u64 y.e.a.hi, .int .u64 y.e.a.lo, .int .i64 y.e.n, .bool y.i, .int .i64 y.t, .int .i64 y.c.p, .int .i64 y.c.a, .int .i64 y.g, .int .i64 y.k] 34))) := Lib.hid (Lows.alloc (Lows.alloc (Lows.self _) _) _)
  by_cases ht : x.t = y.t
  · rw [young_same ht]
    have hz : (x.t != y.t) = false := by rw [bne_eq_false_iff_eq]; exact ht
    have hz2 : (y.t != y.t) = false := by rw [bne_eq_false_iff_eq]
    generalize cmpE x.e y.e = r at *
    clear hx hy ht
    go_enter Try.func9, Try.ntmps9
    go_wp2_with fail
    refine (C2.out _).mono ?_; rintro e w1 ⟨rfl, hb1⟩
    go_wp2_with fail
    go_ret
    exact ⟨rfl, low_trans L0.out hb1⟩
  · rw [young_other ht]
    have hz : (x.t != y.t) = true := by rw [bne_iff_ne]; exact ht
    clear hx hy C2
    go_enter Try.func9, Try.ntmps9
    go_wp2_with fail
    go_ret
    exact ⟨rfl, L0.out⟩
set_option maxHeartbeats 8000000 in
theorem rcrowd_any (v : Value) (l : List Pr) (i : Int) (w : World) (h : Peers w v l) (hok : ∀ x ∈ l, x.ok) (hl : l.length ≤ 1000000) :
    Calls Try.prog 7 #[v, .int .i64 i] w fun e w' => e = .returned (.int .i64 (crowdR l i)) ∧ Below w.heap.size w w' := by
  by_cases h0 : i < 0
  · rw [crowd_off (Or.inl h0)]
    obtain ⟨A, c, rfl, hc, _, _⟩ := h
    go_enter Try.func7, Try.ntmps7
    go_wp2_with fail
    go_ret
    exact ⟨rfl, Below.refl _ _⟩
  · by_cases h1 : (l.length : Int) ≤ i
    · rw [crowd_off (Or.inr h1)]
      obtain ⟨A, c, rfl, hc, _, _⟩ := h
      go_enter Try.func7, Try.ntmps7
      go_wp2_with fail
      go_ret
      exact ⟨rfl, Below.refl _ _⟩
    · obtain ⟨p, rfl⟩ : ∃ k : Nat, i = (k : Int) := ⟨i.toNat, by omega⟩
      have hp : p < l.length := by omega
      have hpz : (p : Int) < (l.length : Int) := by omega
      rw [crowd_at hp]
      obtain ⟨A, c, rfl, hc, _, hcell⟩ := h
      have HC := Lib.hid hcell
      have HXI : Hid (∀ p, p < l.length → (l[p]!).ok) := Lib.hid fun p hp => by rw [getElem!_pos l p hp]; exact hok _ (List.getElem_mem _)
      obtain ⟨x, hx⟩ : ∃ x, x = l[p]! := ⟨_, rfl⟩
      have HX := Lib.hid hx
      rw [← hx]
      have C2 := Lib.hid (fun W => rgroupOf_any x.e.a W (by have h := HXI.out p hp; rw [← hx] at h; exact h.1.1))
      clear hcell hok hx
      go_enter Try.func7, Try.ntmps7
      go_wp2_with fail
      go_loopw [5, 6] (fun vn vk wr => ∃ k : Nat, vk = .int .i64 k ∧ vn = .int .i64 (cntR (l.take k) (gR x) : Int) ∧ k ≤ l.length ∧ Hid (Below w.heap.size w wr)) (fun _ vk _ => l.length - (intOf vk).toNat)
      case atStart => exact ⟨0, rfl, rfl, Nat.zero_le _, Lib.hid (Below.refl _ _)⟩
      case round =>
        obtain ⟨k, rfl, rfl, hk, HL⟩ := hrel
        by_cases hlk : k < l.length
        · have hlkz : (k : Int) < (l.length : Int) := by omega
          obtain ⟨bb, o, rfl, hb, hcc⟩ := HC.out (by omega)
          obtain ⟨z, hz⟩ : ∃ z, z = l[k]! := ⟨_, rfl⟩
          have C1 := Lib.hid (fun W => rgroupOf_any z.e.a W (by have h := HXI.out k hlk; rw [← hz] at h; exact h.1.1))
          have HN := cnt_next hlk (gR x)
          rw [← hz] at HN
          have hq : cntR (l.take k) (gR x) ≤ 1000000 := by
            have := cnt_le (l.take k) (gR x)
            rw [List.length_take] at this
            omega
          have EQ := fun W => eqNet (gR z) (gR x) W
          have hne : Nonempty (Cls (Lows wr)) := ⟨⟨_, Lows.self _⟩⟩
          have f0 : ∀ nq : Cls (Lows wr), nq.w.cell? ⟨bb, o + k * 10, none⟩ = some (.bool z.e.a.v6) := fun nq => by rw [hz]; exact peer_at (low_trans'' HL.out nq.h) hb hcc hlk (j := 0) rfl
          have f1 : ∀ nq : Cls (Lows wr), nq.w.cell? ⟨bb, o + k * 10 + 1, none⟩ = some (.int .u64 z.e.a.hi) := fun nq => by rw [hz]; exact peer_at (low_trans'' HL.out nq.h) hb hcc hlk (j := 1) rfl
          have f2 : ∀ nq : Cls (Lows wr), nq.w.cell? ⟨bb, o + k * 10 + 2, none⟩ = some (.int .u64 z.e.a.lo) := fun nq => by rw [hz]; exact peer_at (low_trans'' HL.out nq.h) hb hcc hlk (j := 2) rfl
          have g0 : ∀ nq : Cls (Lows wr), nq.w.cell? ⟨bb, o + p * 10, none⟩ = some (.bool x.e.a.v6) := fun nq => by rw [HX.out]; exact peer_at (low_trans'' HL.out nq.h) hb hcc hp (j := 0) rfl
          have g1 : ∀ nq : Cls (Lows wr), nq.w.cell? ⟨bb, o + p * 10 + 1, none⟩ = some (.int .u64 x.e.a.hi) := fun nq => by rw [HX.out]; exact peer_at (low_trans'' HL.out nq.h) hb hcc hp (j := 1) rfl
          have g2 : ∀ nq : Cls (Lows wr), nq.w.cell? ⟨bb, o + p * 10 + 2, none⟩ = some (.int .u64 x.e.a.lo) := fun nq => by rw [HX.out]; exact peer_at (low_trans'' HL.out nq.h) hb hcc hp (j := 2) rfl
          clear hcc hb hz
          unfold gR at EQ HN hq
          unfold gR
          cases hs : sameN (groupN z.e.a) (groupN x.e.a) with
          | true =>
            rw [hs] at EQ
            rw [hs, if_pos rfl] at HN
            have HN2 := Lib.hid HN
            clear HN hs
            generalize cntR (l.take k) (groupN x.e.a) = q at *
            generalize groupN z.e.a = gz at *
            go_wp2_with fail
            refine Cls.region (Lows wr) (by kernel_rfl) (by kernel_rfl) (low_drewN (Below.refl _ _) 1) ?_
            (try dsimp only [List.append])
            repeat (go_big_quiet_step (first | fail | (with_reducible exact Cls.call ((lows_call C1).out _ (Cls.h _))) | (with_reducible exact Cls.call ((lows_call C2).out _ (Cls.h _)))))
            refine wpQuiet_nil ?_
            intro n9
            have hk9 := n9.h
            generalize n9.w = w9 at hk9 ⊢
            clear hne n9 f0 f1 f2 g0 g1 g2
            go_wp2_with fail
            go_roundw
            case rel => exact ⟨k + 1, by go_num, by first | exact congrArg (fun q : Nat => Value.int .i64 (q : Int)) HN2.out.symm | (rw [HN2.out]; go_num), by omega, Lib.hid (low_trans'' HL.out hk9)⟩
            case measure => simp [intOf]; omega
          | false =>
            rw [hs] at EQ
            rw [hs, if_neg (by simp)] at HN
            have HN2 := Lib.hid HN
            clear HN hs
            generalize cntR (l.take k) (groupN x.e.a) = q at *
            generalize groupN z.e.a = gz at *
            go_wp2_with fail
            refine Cls.region (Lows wr) (by kernel_rfl) (by kernel_rfl) (low_drewN (Below.refl _ _) 1) ?_
            (try dsimp only [List.append])
            repeat (go_big_quiet_step (first | fail | (with_reducible exact Cls.call ((lows_call C1).out _ (Cls.h _))) | (with_reducible exact Cls.call ((lows_call C2).out _ (Cls.h _)))))
            refine wpQuiet_nil ?_
            intro n9
            have hk9 := n9.h
            generalize n9.w = w9 at hk9 ⊢
            clear hne n9 f0 f1 f2 g0 g1 g2
            go_wp2_with fail
            go_roundw
            case rel => exact ⟨k + 1, by go_num, by rw [HN2.out]; rfl, by omega, Lib.hid (low_trans'' HL.out hk9)⟩
            case measure => simp [intOf]; omega
        · have hlkz : ¬ (k : Int) < (l.length : Int) := by omega
          have e : cntR (l.take k) (gR x) = cntR l (gR x) := by rw [show k = l.length by omega, cnt_done]
          rw [e]
          go_wp2_with fail
          go_ret
          exact ⟨rfl, HL.out⟩
set_option maxHeartbeats 16000000 in
theorem rpick_any (v : Value) (l : List Pr) (w : World) (h : Peers w v l) (hok : ∀ x ∈ l, x.ok) (hl : l.length ≤ 1000000) :
    Calls Try.prog 11 #[v] w fun e w' => e = .returned (.int .i64 (pickR l)) ∧ Below w.heap.size w w' := by
  have PW := Lib.hid h
  have HXI : Hid (∀ p, p < l.length → (l[p]!).ok) := Lib.hid fun p hp => by rw [getElem!_pos l p hp]; exact hok _ (List.getElem_mem _)
  have KC0 := Lib.hid (fun (W : World) (i : Int) (hW : Below w.heap.size w W) => rcrowd_any v l i W (h.below hW) hok hl)
  obtain ⟨A, c, rfl, hc, _, hcell⟩ := h
  have HC := Lib.hid hcell
  clear hcell hok
  go_enter Try.func11, Try.ntmps11
  go_wp2_with fail
  go_loopw [3] (fun vi wr => ∃ i : Nat, vi = .int .i64 i ∧ i ≤ l.length ∧ Hid (0 < l.length → i ≤ bestR l (l.length - 1)) ∧ Hid (Below w.heap.size w wr)) (fun vi _ => l.length - (intOf vi).toNat)
  case atStart => exact ⟨0, rfl, Nat.zero_le _, Lib.hid (fun _ => Nat.zero_le _), Lib.hid (Below.refl _ _)⟩
  case round =>
    obtain ⟨i, rfl, hi, HB0, HL0⟩ := hrel
    by_cases hli : i < l.length
    · have hliz : (i : Int) < (l.length : Int) := by omega
      go_wp2_with fail
      go_loopw [4, 5] (fun vb vk wr => ∃ k : Nat, vk = .int .i64 k ∧ vb = .bool (bestB l i k) ∧ k ≤ l.length ∧ Hid (Below w.heap.size w wr)) (fun _ vk _ => l.length - (intOf vk).toNat)
      case atStart => exact ⟨0, rfl, by rw [bestB_zero], Nat.zero_le _, HL0⟩
      case round =>
        obtain ⟨k, rfl, rfl, hk, HL⟩ := hrel
        by_cases hlk : k < l.length
        · have hlkz : (k : Int) < (l.length : Int) := by omega
          obtain ⟨bb, o, rfl, hb, hcc⟩ := HC.out (by omega)
          obtain ⟨z, hz⟩ : ∃ z, z = l[k]! := ⟨_, rfl⟩
          obtain ⟨x, hx⟩ : ∃ x, x = l[i]! := ⟨_, rfl⟩
          have HN := bestB_next l i k
          rw [← hz, ← hx, not_beats] at HN
          have KX := Lib.hid (fun (W : World) (hW : Below w.heap.size w W) => KC0.out W (k : Int) hW)
          have KY := Lib.hid (fun (W : World) (hW : Below w.heap.size w W) => KC0.out W (i : Int) hW)
          rw [crowd_at hlk, ← hz] at KX
          rw [crowd_at hli, ← hx] at KY
          have HY := Lib.hid (fun W => ryounger_any z x W (by rw [hz]; exact HXI.out k hlk) (by rw [hx]; exact HXI.out i hli))
          have hq1 : cntR l (gR z) ≤ 1000000 := Nat.le_trans (cnt_le _ _) hl
          have hq2 : cntR l (gR x) ≤ 1000000 := Nat.le_trans (cnt_le _ _) hl
          generalize cntR l (gR z) = q1 at *
          generalize cntR l (gR x) = q2 at *
          generalize bestB l i k = b at *
          go_wp2_with fail
          refine (KX.out _ HL.out).mono ?_; rintro e w8 ⟨rfl, hb8⟩
          have HL8 : Hid (Below w.heap.size w w8) := Lib.hid (low_trans'' HL.out hb8)
          clear hb8
          go_wp2_with fail
          refine (KY.out _ HL8.out).mono ?_; rintro e w9 ⟨rfl, hb9⟩
          have HLW : Hid (Below w.heap.size w w9) := Lib.hid (low_trans'' HL8.out hb9)
          clear hb9 KX KY HL8
          have hne : Nonempty (Cls (Lows w9)) := ⟨⟨_, Lows.self _⟩⟩
          have f0 : ∀ nq : Cls (Lows w9), nq.w.cell? ⟨bb, o + k * 10, none⟩ = some (.bool z.e.a.v6) := fun nq => by rw [hz]; exact peer_at (low_trans'' HLW.out nq.h) hb hcc hlk (j := 0) rfl
          have f1 : ∀ nq : Cls (Lows w9), nq.w.cell? ⟨bb, o + k * 10 + 1, none⟩ = some (.int .u64 z.e.a.hi) := fun nq => by rw [hz]; exact peer_at (low_trans'' HLW.out nq.h) hb hcc hlk (j := 1) rfl
          have f2 : ∀ nq : Cls (Lows w9), nq.w.cell? ⟨bb, o + k * 10 + 2, none⟩ = some (.int .u64 z.e.a.lo) := fun nq => by rw [hz]; exact peer_at (low_trans'' HLW.out nq.h) hb hcc hlk (j := 2) rfl
          have f3 : ∀ nq : Cls (Lows w9), nq.w.cell? ⟨bb, o + k * 10 + 3, none⟩ = some (.int .i64 z.e.n) := fun nq => by rw [hz]; exact peer_at (low_trans'' HLW.out nq.h) hb hcc hlk (j := 3) rfl
          have f4 : ∀ nq : Cls (Lows w9), nq.w.cell? ⟨bb, o + k * 10 + 4, none⟩ = some (.bool z.i) := fun nq => by rw [hz]; exact peer_at (low_trans'' HLW.out nq.h) hb hcc hlk (j := 4) rfl
          have f5 : ∀ nq : Cls (Lows w9), nq.w.cell? ⟨bb, o + k * 10 + 5, none⟩ = some (.int .i64 z.t) := fun nq => by rw [hz]; exact peer_at (low_trans'' HLW.out nq.h) hb hcc hlk (j := 5) rfl
          have f6 : ∀ nq : Cls (Lows w9), nq.w.cell? ⟨bb, o + k * 10 + 6, none⟩ = some (.int .i64 z.c.p) := fun nq => by rw [hz]; exact peer_at (low_trans'' HLW.out nq.h) hb hcc hlk (j := 6) rfl
          have f7 : ∀ nq : Cls (Lows w9), nq.w.cell? ⟨bb, o + k * 10 + 7, none⟩ = some (.int .i64 z.c.a) := fun nq => by rw [hz]; exact peer_at (low_trans'' HLW.out nq.h) hb hcc hlk (j := 7) rfl
          have f8 : ∀ nq : Cls (Lows w9), nq.w.cell? ⟨bb, o + k * 10 + 8, none⟩ = some (.int .i64 z.g) := fun nq => by rw [hz]; exact peer_at (low_trans'' HLW.out nq.h) hb hcc hlk (j := 8) rfl
          have f9 : ∀ nq : Cls (Lows w9), nq.w.cell? ⟨bb, o + k * 10 + 9, none⟩ = some (.int .i64 z.k) := fun nq => by rw [hz]; exact peer_at (low_trans'' HLW.out nq.h) hb hcc hlk (j := 9) rfl
          have g0 : ∀ nq : Cls (Lows w9), nq.w.cell? ⟨bb, o + i * 10, none⟩ = some (.bool x.e.a.v6) := fun nq => by rw [hx]; exact peer_at (low_trans'' HLW.out nq.h) hb hcc hli (j := 0) rfl
          have g1 : ∀ nq : Cls (Lows w9), nq.w.cell? ⟨bb, o + i * 10 + 1, none⟩ = some (.int .u64 x.e.a.hi) := fun nq => by rw [hx]; exact peer_at (low_trans'' HLW.out nq.h) hb hcc hli (j := 1) rfl
          have g2 : ∀ nq : Cls (Lows w9), nq.w.cell? ⟨bb, o + i * 10 + 2, none⟩ = some (.int .u64 x.e.a.lo) := fun nq => by rw [hx]; exact peer_at (low_trans'' HLW.out nq.h) hb hcc hli (j := 2) rfl
          have g3 : ∀ nq : Cls (Lows w9), nq.w.cell? ⟨bb, o + i * 10 + 3, none⟩ = some (.int .i64 x.e.n) := fun nq => by rw [hx]; exact peer_at (low_trans'' HLW.out nq.h) hb hcc hli (j := 3) rfl
          have g4 : ∀ nq : Cls (Lows w9), nq.w.cell? ⟨bb, o + i * 10 + 4, none⟩ = some (.bool x.i) := fun nq => by rw [hx]; exact peer_at (low_trans'' HLW.out nq.h) hb hcc hli (j := 4) rfl
          have g5 : ∀ nq : Cls (Lows w9), nq.w.cell? ⟨bb, o + i * 10 + 5, none⟩ = some (.int .i64 x.t) := fun nq => by rw [hx]; exact peer_at (low_trans'' HLW.out nq.h) hb hcc hli (j := 5) rfl
          have g6 : ∀ nq : Cls (Lows w9), nq.w.cell? ⟨bb, o + i * 10 + 6, none⟩ = some (.int .i64 x.c.p) := fun nq => by rw [hx]; exact peer_at (low_trans'' HLW.out nq.h) hb hcc hli (j := 6) rfl
          have g7 : ∀ nq : Cls (Lows w9), nq.w.cell? ⟨bb, o + i * 10 + 7, none⟩ = some (.int .i64 x.c.a) := fun nq => by rw [hx]; exact peer_at (low_trans'' HLW.out nq.h) hb hcc hli (j := 7) rfl
          have g8 : ∀ nq : Cls (Lows w9), nq.w.cell? ⟨bb, o + i * 10 + 8, none⟩ = some (.int .i64 x.g) := fun nq => by rw [hx]; exact peer_at (low_trans'' HLW.out nq.h) hb hcc hli (j := 8) rfl
          have g9 : ∀ nq : Cls (Lows w9), nq.w.cell? ⟨bb, o + i * 10 + 9, none⟩ = some (.int .i64 x.k) := fun nq => by rw [hx]; exact peer_at (low_trans'' HLW.out nq.h) hb hcc hli (j := 9) rfl
          clear hcc hb hz hx
          cases b with
          | false =>
            have HB : Hid (bestB l i (k + 1) = false) := Lib.hid (by rw [HN]; rfl)
            clear HN
            go_wp2_with fail
            refine Cls.region (Lows w9) (by kernel_rfl) (by kernel_rfl) (low_drewN (Below.refl _ _) 1) ?_
            (try dsimp only [List.append])
            repeat (go_big_quiet_step (first | fail))
            refine wpQuiet_nil ?_
            intro n9
            have hk10 := n9.h
            generalize n9.w = w10 at hk10 ⊢
            clear hne n9 f0 f1 f2 f3 f4 f5 f6 f7 f8 f9 g0 g1 g2 g3 g4 g5 g6 g7 g8 g9
            go_wp2_with fail
            go_roundw
            case rel => exact ⟨k + 1, by go_num, by rw [HB.out], by omega, Lib.hid (low_trans'' HLW.out hk10)⟩
            case measure => simp [intOf]; omega
          | true =>
            rw [Bool.true_and] at HN
            by_cases hle : q1 ≤ q2
            · have hlez : (q1 : Int) ≤ (q2 : Int) := by omega
              have hd1 : decide ((q1 : Int) ≤ (q2 : Int)) = true := decide_eq_true hlez
              have hd2 : decide (q1 ≤ q2) = true := decide_eq_true hle
              rw [hd2, Bool.true_and] at HN
              by_cases hlt : q1 < q2
              · have hltz : (q1 : Int) < (q2 : Int) := by omega
                have hd3 : decide ((q1 : Int) < (q2 : Int)) = true := decide_eq_true hltz
                have hd4 : decide (q1 < q2) = true := decide_eq_true hlt
                rw [hd4, Bool.true_or] at HN
                have HB := Lib.hid HN
                clear HN
                go_wp2_with fail
                refine Cls.region (Lows w9) (by kernel_rfl) (by kernel_rfl) (low_drewN (Below.refl _ _) 1) ?_
                (try dsimp only [List.append])
                repeat (go_big_quiet_step (first | fail))
                refine wpQuiet_nil ?_
                intro n9
                have hk10 := n9.h
                generalize n9.w = w10 at hk10 ⊢
                clear hne n9 f0 f1 f2 f3 f4 f5 f6 f7 f8 f9 g0 g1 g2 g3 g4 g5 g6 g7 g8 g9
                go_wp2_with fail
                go_roundw
                case rel => exact ⟨k + 1, by go_num, by rw [HB.out], by omega, Lib.hid (low_trans'' HLW.out hk10)⟩
                case measure => simp [intOf]; omega
              · have hltz : ¬ (q1 : Int) < (q2 : Int) := by omega
                have hd3 : decide ((q1 : Int) < (q2 : Int)) = false := decide_eq_false hltz
                have hd4 : decide (q1 < q2) = false := decide_eq_false hlt
                rw [hd4, Bool.false_or] at HN
                cases hy : youngR z x with
                | true =>
                  rw [hy] at HY HN
                  have HB : Hid (bestB l i (k + 1) = false) := Lib.hid HN
                  clear HN hy
                  go_wp2_with fail
                  refine Cls.region (Lows w9) (by kernel_rfl) (by kernel_rfl) (low_drewN (Below.refl _ _) 1) ?_
                  (try dsimp only [List.append])
                  repeat (go_big_quiet_step (first | fail | (with_reducible exact Cls.call ((lows_call HY).out _ (Cls.h _)))))
                  refine wpQuiet_nil ?_
                  intro n9
                  have hk10 := n9.h
                  generalize n9.w = w10 at hk10 ⊢
                  clear hne n9 f0 f1 f2 f3 f4 f5 f6 f7 f8 f9 g0 g1 g2 g3 g4 g5 g6 g7 g8 g9
                  go_wp2_with fail
                  go_roundw
                  case rel => exact ⟨k + 1, by go_num, by rw [HB.out], by omega, Lib.hid (low_trans'' HLW.out hk10)⟩
                  case measure => simp [intOf]; omega
                | false =>
                  rw [hy] at HY HN
                  have HB : Hid (bestB l i (k + 1) = true) := Lib.hid HN
                  clear HN hy
                  go_wp2_with fail
                  refine Cls.region (Lows w9) (by kernel_rfl) (by kernel_rfl) (low_drewN (Below.refl _ _) 1) ?_
                  (try dsimp only [List.append])
                  repeat (go_big_quiet_step (first | fail | (with_reducible exact Cls.call ((lows_call HY).out _ (Cls.h _)))))
                  refine wpQuiet_nil ?_
                  intro n9
                  have hk10 := n9.h
                  generalize n9.w = w10 at hk10 ⊢
                  clear hne n9 f0 f1 f2 f3 f4 f5 f6 f7 f8 f9 g0 g1 g2 g3 g4 g5 g6 g7 g8 g9
                  go_wp2_with fail
                  go_roundw
                  case rel => exact ⟨k + 1, by go_num, by rw [HB.out], by omega, Lib.hid (low_trans'' HLW.out hk10)⟩
                  case measure => simp [intOf]; omega
            · have hlez : ¬ (q1 : Int) ≤ (q2 : Int) := by omega
              have hd1 : decide ((q1 : Int) ≤ (q2 : Int)) = false := decide_eq_false hlez
              have hd2 : decide (q1 ≤ q2) = false := decide_eq_false hle
              rw [hd2, Bool.false_and] at HN
              have HB := Lib.hid HN
              clear HN
              go_wp2_with fail
              refine Cls.region (Lows w9) (by kernel_rfl) (by kernel_rfl) (low_drewN (Below.refl _ _) 1) ?_
              (try dsimp only [List.append])
              repeat (go_big_quiet_step (first | fail))
              refine wpQuiet_nil ?_
              intro n9
              have hk10 := n9.h
              generalize n9.w = w10 at hk10 ⊢
              clear hne n9 f0 f1 f2 f3 f4 f5 f6 f7 f8 f9 g0 g1 g2 g3 g4 g5 g6 g7 g8 g9
              go_wp2_with fail
              go_roundw
              case rel => exact ⟨k + 1, by go_num, by rw [HB.out], by omega, Lib.hid (low_trans'' HLW.out hk10)⟩
              case measure => simp [intOf]; omega
        · have hlkz : ¬ (k : Int) < (l.length : Int) := by omega
          have hke : k = l.length := by omega
          subst hke
          have h0 : 0 < l.length := by omega
          have HE1 := Lib.hid (fun h => bestB_pick h0 hli h (HB0.out h0))
          have HE2 := Lib.hid (bestB_done h0)
          have HE3 : Hid (pickR l = (bestR l (l.length - 1) : Int)) := Lib.hid (by unfold pickR; rw [if_neg (by omega)])
          cases hb : bestB l i l.length with
          | true =>
            have HE : Hid (pickR l = (i : Int)) := Lib.hid (by rw [HE3.out, ← HE1.out hb])
            clear hb
            go_wp2_with fail
            go_ret
            exact ⟨by rw [HE.out]; rfl, HL.out⟩
          | false =>
            have HB1 : Hid (0 < l.length → i + 1 ≤ bestR l (l.length - 1)) := Lib.hid fun h => by
              have h1 := HB0.out h
              have h2 : i ≠ bestR l (l.length - 1) := fun e => by rw [e, HE2.out] at hb; exact Bool.noConfusion hb
              omega
            clear hb
            go_wp2_with fail
            go_roundw
            case rel => exact ⟨i + 1, by go_num, by omega, HB1, HL⟩
            case measure => simp [intOf]; omega
    · have hliz : ¬ (i : Int) < (l.length : Int) := by omega
      have h0 : l.length = 0 := by
        have h1 := best_le l (l.length - 1)
        by_cases h : 0 < l.length
        · have := HB0.out h; omega
        · omega
      have HE : Hid (pickR l = -1) := Lib.hid (by unfold pickR; rw [if_pos h0])
      go_wp2_with fail
      go_ret
      exact ⟨by rw [HE.out]; rfl, HL0.out⟩
end Go.Proofs.Ytanphaahcmfkcaa.Cw
