/- The second statement of layer 17, proved: a right peer stays right, with the least latency and the latest work; for all acts and numbers. -/
import Derived.Test.YtdlbhcakfciagaaLaw17
import Derived.Deep.CutBlock
namespace Go.Proofs.Ytdlbhcakfciagaa
set_option maxRecDepth 100000
open Go.ChangeShapes Go.WideShapes Go.ChangeAt Go.RowKit
open Dec Words V4 V6 Ad Ci En Sat Ha Pe Go.Deep
set_option linter.unusedVariables false
set_option maxHeartbeats 16000000 in
theorem peerLives_walk (w : World) (p : Pr) (hp : p.ok) (v : Value) (la : List Act17) (h : Acts17 w v la) (hok : ∀ x ∈ la, x.ok) (life : Int) (hn : -9223372036854775808 ≤ life ∧ life ≤ 9223372036854775807) :
    Calls Try.prog 4 #[.agg #[.bool p.e.a.v6, .int .u64 p.e.a.hi, .int .u64 p.e.a.lo, .int .i64 p.e.n, .bool p.i, .int .i64 p.t, .int .i64 p.c.p, .int .i64 p.c.a, .int .i64 p.g, .int .i64 p.k], v, .int .i64 life] w fun e w' => e = .returned (.bool true) ∧ Below w.heap.size w w' := by
  obtain ⟨A, c, rfl, hc, -, hcell⟩ := h
  have HC := Lib.hid hcell
  have AW := Lib.hid (fun W => awake17_any W)
  have C0 := Lib.hid (fun W => rrightP_any p hp W)
  have O := Lib.hid (Blk.new w #[.bool p.e.a.v6, .int .u64 p.e.a.hi, .int .u64 p.e.a.lo, .int .i64 p.e.n, .bool p.i, .int .i64 p.t, .int .i64 p.c.p, .int .i64 p.c.a, .int .i64 p.g, .int .i64 p.k] 30)
  have L0 : Hid (Lows w (w.alloc (.cells #[.bool p.e.a.v6, .int .u64 p.e.a.hi, .int .u64 p.e.a.lo, .int .i64 p.e.n, .bool p.i, .int .i64 p.t, .int .i64 p.c.p, .int .i64 p.c.a, .int .i64 p.g, .int .i64 p.k] 30))) := Lib.hid (Lows.alloc (Lows.self w) _)
  have HE := Lib.hid hp.1
  have NE := fun W => neqEnd p.e p.e W
  simp only [same_selfE, Bool.not_true] at NE
  clear hcell hok hn hp
  cases hr : rightP p
  · rw [hr] at C0
    clear hr
    go_enter Try.func4, Try.ntmps4
    go_wp2_with fail
    refine (C0.out _).mono ?_; rintro e w1 ⟨rfl, hb1⟩
    have L1 := Lib.hid (low_trans L0.out hb1)
    clear hb1
    go_wp2_with fail
    refine (AW.out _).mono ?_; rintro e w9 ⟨rfl, hb9⟩
    go_wp2_with fail
    go_ret
    exact ⟨rfl, low_trans L1.out hb9⟩
  · rw [hr] at C0
    have HR := Lib.hid hr
    clear hr
    by_cases hl : 100 < la.length
    · have hd : (100 : Int) < (la.length : Int) := by omega
      clear hl
      go_enter Try.func4, Try.ntmps4
      go_wp2_with fail
      refine (C0.out _).mono ?_; rintro e w1 ⟨rfl, hb1⟩
      have L1 := Lib.hid (low_trans L0.out hb1)
      clear hb1
      go_wp2_with fail
      refine (AW.out _).mono ?_; rintro e w9 ⟨rfl, hb9⟩
      go_wp2_with fail
      go_ret
      exact ⟨rfl, low_trans L1.out hb9⟩
    · have hd : ¬ (100 : Int) < (la.length : Int) := by omega
      go_enter Try.func4, Try.ntmps4
      go_wp2_with fail
      refine (C0.out _).mono ?_; rintro e w1 ⟨rfl, hb1⟩
      have O1 := Lib.hid (O.out.on hb1)
      have L1 := Lib.hid (low_trans L0.out hb1)
      clear hb1 O L0 C0
      go_wp2_with fail
      have hne : Nonempty (Cls (Lows w1)) := ⟨⟨_, Lows.self _⟩⟩
      have f0 : ∀ nq : Cls (Lows w1), nq.w.cell? ⟨w.heap.size, 8, none⟩ = some (.int .i64 p.g) := fun nq => Blk.in O1 nq.h rfl
      have f1 : ∀ nq : Cls (Lows w1), nq.w.cell? ⟨w.heap.size, 9, none⟩ = some (.int .i64 p.k) := fun nq => Blk.in O1 nq.h rfl
      refine Cls.region (Lows w1) (by kernel_rfl) (by kernel_rfl) (low_drewN (Below.refl _ _) 1) ?_
      repeat (go_big_quiet_step (first | fail))
      refine wpQuiet_nil ?_
      intro n9
      have hk2 := n9.h
      generalize n9.w = w2 at hk2 ⊢
      clear hne n9 f0 f1
      have O2 := Lib.hid (O1.out.on hk2)
      have L2 := Lib.hid (low_trans L1.out hk2)
      clear hk2 O1 L1
      have s0 := O2.out.cell (j := 0) rfl
      have s1 := O2.out.cell (j := 1) rfl
      have s2 := O2.out.cell (j := 2) rfl
      have s3 := O2.out.cell (j := 3) rfl
      have s4 := O2.out.cell (j := 4) rfl
      have s5 := O2.out.cell (j := 5) rfl
      have s6 := O2.out.cell (j := 6) rfl
      have s7 := O2.out.cell (j := 7) rfl
      have s8 := O2.out.cell (j := 8) rfl
      have s9 := O2.out.cell (j := 9) rfl
      go_wp2_with fail
      clear s0 s1 s2 s3 s4 s5 s6 s7 s8 s9
      go_loopg [7, 8, 10] (la.length) (fun m s7 s8 s10 wr => ∃ (k : Nat) (d : Sc) (q r : Int), k + m = la.length ∧ s7 = .int .i64 q ∧ s8 = .int .i64 r ∧ s10 = .int .i64 k ∧ Hid (rightP (⟨p.e, p.i, p.t, d, q, r⟩ : Pr) = true) ∧ Hid (Blk wr w2.heap.size 30 [.bool p.e.a.v6, .int .u64 p.e.a.hi, .int .u64 p.e.a.lo, .int .i64 p.e.n, .bool p.i, .int .i64 p.t, .int .i64 d.p, .int .i64 d.a, .int .i64 q, .int .i64 r]) ∧ Hid (Bt w2.heap.size (w2.alloc (.cells #[.bool p.e.a.v6, .int .u64 p.e.a.hi, .int .u64 p.e.a.lo, .int .i64 p.e.n, .bool p.i, .int .i64 p.t, .int .i64 p.c.p, .int .i64 p.c.a, .int .i64 p.g, .int .i64 p.k] 30)) wr))
      case atStart => exact ⟨0, p.c, p.g, p.k, by omega, rfl, rfl, rfl, HR, Lib.hid (Blk.new w2 _ _), Lib.hid (Bt.refl _ _)⟩
      case round =>
        obtain ⟨k, d, q, r, hk, rfl, rfl, rfl, HQ, HB, HT⟩ := hrel
        have LW : Hid (Below w.heap.size w wr) := Lib.hid ((Lows.alloc L2.out _).trans (HT.out.low L2.out.size (Lows.alloc L2.out (.cells #[.bool p.e.a.v6, .int .u64 p.e.a.hi, .int .u64 p.e.a.lo, .int .i64 p.e.n, .bool p.i, .int .i64 p.t, .int .i64 p.c.p, .int .i64 p.c.a, .int .i64 p.g, .int .i64 p.k] 30)).size))
        have OP : Hid (Blk wr w.heap.size 30 [.bool p.e.a.v6, .int .u64 p.e.a.hi, .int .u64 p.e.a.lo, .int .i64 p.e.n, .bool p.i, .int .i64 p.t, .int .i64 p.c.p, .int .i64 p.c.a, .int .i64 p.g, .int .i64 p.k]) := Lib.hid ((O2.out.alloc (.cells #[.bool p.e.a.v6, .int .u64 p.e.a.hi, .int .u64 p.e.a.lo, .int .i64 p.e.n, .bool p.i, .int .i64 p.t, .int .i64 p.c.p, .int .i64 p.c.a, .int .i64 p.g, .int .i64 p.k] 30)).but HT.out (Nat.ne_of_lt O2.out.lt))
        have HN : Hid (wr.heap.size ≠ w2.heap.size) := Lib.hid (Nat.ne_of_gt HB.out.lt)
        by_cases hlt : k < la.length
        · obtain ⟨b, o, rfl, hb, hcc⟩ := HC.out (by omega)
          have e0 : wr.cell? ⟨b, o + k * 3, none⟩ = some (.int .i64 la[k].kind) := (LW.out.cell (p := ⟨b, o + k * 3, none⟩) hb).trans (hcc k hlt 0 _ rfl)
          have e1 : wr.cell? ⟨b, o + k * 3 + 1, none⟩ = some (.int .i64 la[k].n) := (LW.out.cell (p := ⟨b, o + k * 3 + 1, none⟩) hb).trans (hcc k hlt 1 _ rfl)
          have e2 : wr.cell? ⟨b, o + k * 3 + 2, none⟩ = some (.int .i64 la[k].a) := (LW.out.cell (p := ⟨b, o + k * 3 + 2, none⟩) hb).trans (hcc k hlt 2 _ rfl)
          have hkl : (k : Int) < (la.length : Int) := by omega
          generalize la[k] = x at e0 e1 e2
          have OA := Lib.hid (Blk.new wr #[.int .i64 x.kind, .int .i64 x.n, .int .i64 x.a] 41)
          have HBa := Lib.hid (HB.out.alloc (.cells #[.int .i64 x.kind, .int .i64 x.n, .int .i64 x.a] 41))
          have TA : Hid (Bt w2.heap.size wr (wr.alloc (.cells #[.int .i64 x.kind, .int .i64 x.n, .int .i64 x.a] 41))) := Lib.hid (Bt.alloc (Bt.refl _ _) _)
          clear hcc
          go_upto_block 2 with fail
          clear e0 e1 e2
          go_cut [7, 8] from 26 to 117 (fun s7 s8 wx => ∃ (d2 : Sc) (q2 r2 : Int), s7 = .int .i64 q2 ∧ s8 = .int .i64 r2 ∧ Hid (rightP (⟨p.e, p.i, p.t, d2, q2, r2⟩ : Pr) = true) ∧ Hid (Blk wx w2.heap.size 30 [.bool p.e.a.v6, .int .u64 p.e.a.hi, .int .u64 p.e.a.lo, .int .i64 p.e.n, .bool p.i, .int .i64 p.t, .int .i64 d2.p, .int .i64 d2.a, .int .i64 q2, .int .i64 r2]) ∧ Hid (Bt w2.heap.size wr wx))
          case first =>
            by_cases hk0 : x.kind = 0
            · have hkb : (x.kind == 0) = true := by rw [beq_iff_eq]; exact hk0
              clear hk0
              have K : Hid (∀ W, Calls Try.prog 9 #[.agg #[.bool p.e.a.v6, .int .u64 p.e.a.hi, .int .u64 p.e.a.lo, .int .i64 p.e.n, .bool p.i, .int .i64 p.t, .int .i64 d.p, .int .i64 d.a, .int .i64 q, .int .i64 r], .int .i64 x.n] W fun e w' => e = .returned (.agg #[.bool p.e.a.v6, .int .u64 p.e.a.hi, .int .u64 p.e.a.lo, .int .i64 p.e.n, .bool p.i, .int .i64 p.t, .int .i64 d.p, .int .i64 d.a, .int .i64 (pongG q x.n), .int .i64 r]) ∧ Below W.heap.size W w') := Lib.hid fun W => pong_any (⟨p.e, p.i, p.t, d, q, r⟩ : Pr) x.n W
              have HQ2 : Hid (rightP (⟨p.e, p.i, p.t, d, (pongG q x.n), r⟩ : Pr) = true) := Lib.hid (pong_right HQ.out x.n)
              go_upto_region 12 with fail
              go_cut [] from 26 to 117 (fun wx => Hid (Blk wx w2.heap.size 30 [.bool p.e.a.v6, .int .u64 p.e.a.hi, .int .u64 p.e.a.lo, .int .i64 p.e.n, .bool p.i, .int .i64 p.t, .int .i64 d.p, .int .i64 d.a, .int .i64 (pongG q x.n), .int .i64 r]) ∧ Hid (Blk wx wr.heap.size 41 [.int .i64 x.kind, .int .i64 x.n, .int .i64 x.a]) ∧ Hid (Bt w2.heap.size wr wx))
              case first =>
                have b0 := HBa.out.cell (j := 0) rfl
                have b1 := HBa.out.cell (j := 1) rfl
                have b2 := HBa.out.cell (j := 2) rfl
                have b3 := HBa.out.cell (j := 3) rfl
                have b4 := HBa.out.cell (j := 4) rfl
                have b5 := HBa.out.cell (j := 5) rfl
                have b6 := HBa.out.cell (j := 6) rfl
                have b7 := HBa.out.cell (j := 7) rfl
                have b8 := HBa.out.cell (j := 8) rfl
                have b9 := HBa.out.cell (j := 9) rfl
                go_wp2_with fail
                refine (K.out _).mono ?_; rintro e w9 ⟨rfl, hb9⟩
                have own := HBa.out.on hb9
                have A9 := Lib.hid (OA.out.on hb9)
                have T9 := Lib.hid (TA.out.trans (Bt.of hb9))
                clear b0 b1 b2 b3 b4 b5 b6 b7 b8 b9 hb9 K
                have s0 := own.cell (j := 0) rfl
                have s1 := own.cell (j := 1) rfl
                have s2 := own.cell (j := 2) rfl
                have s3 := own.cell (j := 3) rfl
                have s4 := own.cell (j := 4) rfl
                have s5 := own.cell (j := 5) rfl
                have s6 := own.cell (j := 6) rfl
                have s7 := own.cell (j := 7) rfl
                have s8 := own.cell (j := 8) rfl
                have s9 := own.cell (j := 9) rfl
                have f0 := own.free 0
                have f1 := own.free 1
                have f2 := own.free 2
                have f3 := own.free 3
                have f4 := own.free 4
                have f5 := own.free 5
                have f6 := own.free 6
                have f7 := own.free 7
                have f8 := own.free 8
                have f9 := own.free 9
                have O9 := Lib.hid own
                clear own
                go_wp2_with fail
                go_meet
                case rel => exact ⟨Lib.hid (put10 O9.out rfl _ _ _ _ _ _ _ _ _ _ ), Lib.hid (A9.out.but (bt10 _ _ _ _ _ _ _ _ _ _ _ _ ) HN.out), Lib.hid (T9.out.trans (bt10 _ _ _ _ _ _ _ _ _ _ _ _ ))⟩
              case rest =>
                obtain ⟨HB3, HA3, HT3⟩ := hcut
                have m1 := HA3.out.cell (j := 1) rfl
                by_cases h1 : 1 ≤ x.n
                · by_cases h2 : x.n ≤ 1048576
                  · by_cases h3 : q = 0
                    · have E : Hid (pongG q x.n = x.n) := Lib.hid (by unfold pongG; first | rw [if_pos (by omega)] | rw [if_neg (by omega)])
                      have hq : (q == 0) = true := by rw [beq_iff_eq]; exact h3
                      clear h3
                      go_wp2_with fail
                      go_meet
                      case rel => exact ⟨d, pongG q x.n, r, by rw [E.out], rfl, HQ2, HB3, HT3⟩
                    · by_cases h4 : x.n < q
                      · have E : Hid (pongG q x.n = x.n) := Lib.hid (by unfold pongG; first | rw [if_pos (by omega)] | rw [if_neg (by omega)])
                        have hq : (q == 0) = false := by rw [beq_eq_false_iff_ne]; exact h3
                        clear h3
                        go_wp2_with fail
                        go_meet
                        case rel => exact ⟨d, pongG q x.n, r, by rw [E.out], rfl, HQ2, HB3, HT3⟩
                      · have E : Hid (pongG q x.n = q) := Lib.hid (by unfold pongG; first | rw [if_pos (by omega)] | rw [if_neg (by omega)])
                        have hq : (q == 0) = false := by rw [beq_eq_false_iff_ne]; exact h3
                        clear h3
                        go_wp2_with fail
                        go_meet
                        case rel => exact ⟨d, pongG q x.n, r, by rw [E.out], rfl, HQ2, HB3, HT3⟩
                  · have E : Hid (pongG q x.n = q) := Lib.hid (by unfold pongG; first | rw [if_pos (by omega)] | rw [if_neg (by omega)])
                    go_wp2_with fail
                    go_meet
                    case rel => exact ⟨d, pongG q x.n, r, by rw [E.out], rfl, HQ2, HB3, HT3⟩
                · have E : Hid (pongG q x.n = q) := Lib.hid (by unfold pongG; first | rw [if_pos (by omega)] | rw [if_neg (by omega)])
                  go_wp2_with fail
                  go_meet
                  case rel => exact ⟨d, pongG q x.n, r, by rw [E.out], rfl, HQ2, HB3, HT3⟩
            · have hkb : (x.kind == 0) = false := by rw [beq_eq_false_iff_ne]; exact hk0
              by_cases hk1 : x.kind = 1
              · have hkc : (x.kind == 1) = true := by rw [beq_iff_eq]; exact hk1
                clear hk0 hk1
                have K : Hid (∀ W, Calls Try.prog 11 #[.agg #[.bool p.e.a.v6, .int .u64 p.e.a.hi, .int .u64 p.e.a.lo, .int .i64 p.e.n, .bool p.i, .int .i64 p.t, .int .i64 d.p, .int .i64 d.a, .int .i64 q, .int .i64 r], .int .i64 x.n] W fun e w' => e = .returned (.agg #[.bool p.e.a.v6, .int .u64 p.e.a.hi, .int .u64 p.e.a.lo, .int .i64 p.e.n, .bool p.i, .int .i64 p.t, .int .i64 d.p, .int .i64 d.a, .int .i64 q, .int .i64 (workK r x.n)]) ∧ Below W.heap.size W w') := Lib.hid fun W => worked_any (⟨p.e, p.i, p.t, d, q, r⟩ : Pr) x.n W
                have HQ2 : Hid (rightP (⟨p.e, p.i, p.t, d, q, (workK r x.n)⟩ : Pr) = true) := Lib.hid (work_right HQ.out x.n)
                obtain ⟨n1, M1⟩ : ∃ n1 : Int, min x.n 1099511627776 = n1 := ⟨_, rfl⟩
                obtain ⟨n2, M2⟩ : ∃ n2 : Int, max r n1 = n2 := ⟨_, rfl⟩
                have E : Hid (n2 = workK r x.n) := Lib.hid (by rw [← M2, ← M1]; exact workK_is _ _ ((rightP_iff _).1 HQ.out).2.2.2.1.1)
                have HM := Lib.hid (And.intro M1 M2)
                clear M1 M2
                go_upto_region 16 with fail
                go_cut [] from 26 to 117 (fun wx => Hid (Blk wx w2.heap.size 30 [.bool p.e.a.v6, .int .u64 p.e.a.hi, .int .u64 p.e.a.lo, .int .i64 p.e.n, .bool p.i, .int .i64 p.t, .int .i64 d.p, .int .i64 d.a, .int .i64 q, .int .i64 (workK r x.n)]) ∧ Hid (Blk wx wr.heap.size 41 [.int .i64 x.kind, .int .i64 x.n, .int .i64 x.a]) ∧ Hid (Bt w2.heap.size wr wx))
                case first =>
                  have b0 := HBa.out.cell (j := 0) rfl
                  have b1 := HBa.out.cell (j := 1) rfl
                  have b2 := HBa.out.cell (j := 2) rfl
                  have b3 := HBa.out.cell (j := 3) rfl
                  have b4 := HBa.out.cell (j := 4) rfl
                  have b5 := HBa.out.cell (j := 5) rfl
                  have b6 := HBa.out.cell (j := 6) rfl
                  have b7 := HBa.out.cell (j := 7) rfl
                  have b8 := HBa.out.cell (j := 8) rfl
                  have b9 := HBa.out.cell (j := 9) rfl
                  go_wp2_with fail
                  refine (K.out _).mono ?_; rintro e w9 ⟨rfl, hb9⟩
                  have own := HBa.out.on hb9
                  have A9 := Lib.hid (OA.out.on hb9)
                  have T9 := Lib.hid (TA.out.trans (Bt.of hb9))
                  clear b0 b1 b2 b3 b4 b5 b6 b7 b8 b9 hb9 K
                  have s0 := own.cell (j := 0) rfl
                  have s1 := own.cell (j := 1) rfl
                  have s2 := own.cell (j := 2) rfl
                  have s3 := own.cell (j := 3) rfl
                  have s4 := own.cell (j := 4) rfl
                  have s5 := own.cell (j := 5) rfl
                  have s6 := own.cell (j := 6) rfl
                  have s7 := own.cell (j := 7) rfl
                  have s8 := own.cell (j := 8) rfl
                  have s9 := own.cell (j := 9) rfl
                  have f0 := own.free 0
                  have f1 := own.free 1
                  have f2 := own.free 2
                  have f3 := own.free 3
                  have f4 := own.free 4
                  have f5 := own.free 5
                  have f6 := own.free 6
                  have f7 := own.free 7
                  have f8 := own.free 8
                  have f9 := own.free 9
                  have O9 := Lib.hid own
                  clear own
                  go_wp2_with fail
                  go_meet
                  case rel => exact ⟨Lib.hid (put10 O9.out rfl _ _ _ _ _ _ _ _ _ _ ), Lib.hid (A9.out.but (bt10 _ _ _ _ _ _ _ _ _ _ _ _ ) HN.out), Lib.hid (T9.out.trans (bt10 _ _ _ _ _ _ _ _ _ _ _ _ ))⟩
                case rest =>
                  obtain ⟨HB3, HA3, HT3⟩ := hcut
                  have m1 := HA3.out.cell (j := 1) rfl
                  have M1 := HM.out.1
                  have M2 := HM.out.2
                  go_wp2_with fail
                  go_meet
                  case rel => exact ⟨d, q, workK r x.n, rfl, by rw [E.out], HQ2, HB3, HT3⟩
              · have hkc : (x.kind == 1) = false := by rw [beq_eq_false_iff_ne]; exact hk1
                clear hk0 hk1
                have K : Hid (∀ W, Calls Try.prog 13 #[.agg #[.bool p.e.a.v6, .int .u64 p.e.a.hi, .int .u64 p.e.a.lo, .int .i64 p.e.n, .bool p.i, .int .i64 p.t, .int .i64 d.p, .int .i64 d.a, .int .i64 q, .int .i64 r], .int .i64 x.n, .int .i64 life, .int .i64 x.a] W fun e w' => e = .returned (.agg #[.bool p.e.a.v6, .int .u64 p.e.a.hi, .int .u64 p.e.a.lo, .int .i64 p.e.n, .bool p.i, .int .i64 p.t, .int .i64 (addS d x.n life x.a).p, .int .i64 (addS d x.n life x.a).a, .int .i64 q, .int .i64 r]) ∧ Below W.heap.size W w') := Lib.hid fun W => blamed_any (⟨p.e, p.i, p.t, d, q, r⟩ : Pr) x.n life x.a W
                have HQ2 : Hid (rightP (⟨p.e, p.i, p.t, (addS d x.n life x.a), q, r⟩ : Pr) = true) := Lib.hid (blame_right HQ.out x.n life x.a)
                have b0 := HBa.out.cell (j := 0) rfl
                have b1 := HBa.out.cell (j := 1) rfl
                have b2 := HBa.out.cell (j := 2) rfl
                have b3 := HBa.out.cell (j := 3) rfl
                have b4 := HBa.out.cell (j := 4) rfl
                have b5 := HBa.out.cell (j := 5) rfl
                have b6 := HBa.out.cell (j := 6) rfl
                have b7 := HBa.out.cell (j := 7) rfl
                have b8 := HBa.out.cell (j := 8) rfl
                have b9 := HBa.out.cell (j := 9) rfl
                go_wp2_with fail
                refine (K.out _).mono ?_; rintro e w9 ⟨rfl, hb9⟩
                have own := HBa.out.on hb9
                have A9 := Lib.hid (OA.out.on hb9)
                have T9 := Lib.hid (TA.out.trans (Bt.of hb9))
                clear b0 b1 b2 b3 b4 b5 b6 b7 b8 b9 hb9 K
                have s0 := own.cell (j := 0) rfl
                have s1 := own.cell (j := 1) rfl
                have s2 := own.cell (j := 2) rfl
                have s3 := own.cell (j := 3) rfl
                have s4 := own.cell (j := 4) rfl
                have s5 := own.cell (j := 5) rfl
                have s6 := own.cell (j := 6) rfl
                have s7 := own.cell (j := 7) rfl
                have s8 := own.cell (j := 8) rfl
                have s9 := own.cell (j := 9) rfl
                have f0 := own.free 0
                have f1 := own.free 1
                have f2 := own.free 2
                have f3 := own.free 3
                have f4 := own.free 4
                have f5 := own.free 5
                have f6 := own.free 6
                have f7 := own.free 7
                have f8 := own.free 8
                have f9 := own.free 9
                have O9 := Lib.hid own
                clear own
                go_wp2_with fail
                go_meet
                case rel => exact ⟨addS d x.n life x.a, q, r, rfl, rfl, HQ2, Lib.hid (put10 O9.out rfl _ _ _ _ _ _ _ _ _ _ ), Lib.hid (T9.out.trans (bt10 _ _ _ _ _ _ _ _ _ _ _ _ ))⟩
          case rest =>
            obtain ⟨d2, q2, r2, rfl, rfl, HQ2, HB2, HT2⟩ := hcut
            have K : Hid (∀ W, Calls Try.prog 5 #[.agg #[.bool p.e.a.v6, .int .u64 p.e.a.hi, .int .u64 p.e.a.lo, .int .i64 p.e.n, .bool p.i, .int .i64 p.t, .int .i64 d2.p, .int .i64 d2.a, .int .i64 q2, .int .i64 r2]] W fun e w' => e = .returned (.bool true) ∧ Below W.heap.size W w') := Lib.hid fun W => by have k := rightP_any (⟨p.e, p.i, p.t, d2, q2, r2⟩ : Pr) (right_ok HE.out HQ2.out) W; rwa [HQ2.out] at k
            have OP2 := Lib.hid (OP.out.but HT2.out (Nat.ne_of_lt O2.out.lt))
            clear HQ HB OA HBa TA OP
            have b0 := HB2.out.cell (j := 0) rfl
            have b1 := HB2.out.cell (j := 1) rfl
            have b2 := HB2.out.cell (j := 2) rfl
            have b3 := HB2.out.cell (j := 3) rfl
            have b4 := HB2.out.cell (j := 4) rfl
            have b5 := HB2.out.cell (j := 5) rfl
            have b6 := HB2.out.cell (j := 6) rfl
            have b7 := HB2.out.cell (j := 7) rfl
            have b8 := HB2.out.cell (j := 8) rfl
            have b9 := HB2.out.cell (j := 9) rfl
            go_wp2_with fail
            refine (K.out _).mono ?_; rintro e w10 ⟨rfl, hb10⟩
            have HB3 := Lib.hid (HB2.out.on hb10)
            have OP3 := Lib.hid (OP2.out.on hb10)
            have HT3 := Lib.hid ((HT.out.trans HT2.out).trans (Bt.of hb10))
            clear hb10 K HB2 OP2 b0 b1 b2 b3 b4 b5 b6 b7 b8 b9
            have b0 := HB3.out.cell (j := 0) rfl
            have b1 := HB3.out.cell (j := 1) rfl
            have b2 := HB3.out.cell (j := 2) rfl
            have b3 := HB3.out.cell (j := 3) rfl
            have b4 := HB3.out.cell (j := 4) rfl
            have b5 := HB3.out.cell (j := 5) rfl
            have b8 := HB3.out.cell (j := 8) rfl
            have b9 := HB3.out.cell (j := 9) rfl
            have p0 := OP3.out.cell (j := 0) rfl
            have p1 := OP3.out.cell (j := 1) rfl
            have p2 := OP3.out.cell (j := 2) rfl
            have p3 := OP3.out.cell (j := 3) rfl
            have p4 := OP3.out.cell (j := 4) rfl
            have p5 := OP3.out.cell (j := 5) rfl
            go_wp2_with fail
            go_roundg (la.length - (k + 1))
            case measure => omega
            case rel => exact ⟨k + 1, d2, q2, r2, by omega, rfl, rfl, by go_num, HQ2, HB3, HT3⟩
        · have hkl : ¬ (k : Int) < (la.length : Int) := by omega
          go_wp2_with fail
          refine (AW.out _).mono ?_; rintro e w9 ⟨rfl, hb9⟩
          go_wp2_with fail
          go_ret
          exact ⟨rfl, low_trans LW.out hb9⟩
namespace peerLives
theorem contract (H : Type) (enc : TypeId × Value → H) (W : World) (base : Nat) (args : Array Value) (ds gs : List (DataW H)) (before : List MemPlace)
    (hval0 : ∀ (j : Nat) t v, Try.f4.params[j]? = some t → args[j]? = some v → Value.okWide Try.prog W .any base t v)
    (hW : DataW.Whole enc Try.prog Try.f4.params.toList Rows.peerLivesSpec.vars false W args.toList ds gs before) (hSh : W.ShapedOpen Try.prog) :
    Calls Try.prog 4 args W fun e W' => ∃ v, e = .returned v ∧ Rows.peerLivesSpec.post enc Try.prog Try.f4 false true false false W args v W' := by
  have hval : ∀ (j : Nat) t v, Try.f4.params[j]? = some t → args[j]? = some v → Value.okWide Try.prog W .any base t v := hval0
  have hW' := hW
  obtain ⟨p, q, hA0, hV, _, _, _⟩ := hW
  have hA : DataW.TrodAll enc Try.prog W 0 (fun _ => true) true Try.f4.params.toList args.toList ds p := hA0
  rw [Try.params4] at hA hval
  obtain ⟨v0, vs0, d0, ds0, p0, q0, hargs, rfl, rfl, h0, r0⟩ := trodAll_cons hA
  obtain ⟨v1, vs1, d1, ds1, p1, q1, rfl, rfl, rfl, h1, r1⟩ := trodAll_cons r0
  obtain ⟨v2, vs2, d2, ds2, p2, q2, rfl, rfl, rfl, h2, r2⟩ := trodAll_cons r1
  obtain ⟨rfl, rfl, rfl⟩ := trodAll_nil r2
  obtain rfl : args = #[v0, v1, v2] := by cases args; simp_all
  obtain ⟨rfl, rfl⟩ := trodVars_none hV
  obtain ⟨a0, z0, rfl⟩ := open_peer (hval 0 30 v0 rfl rfl) h0
  obtain ⟨l1, t1, n1, s1⟩ := open_acts17 (hval 1 39 v1 rfl rfl) h1
  obtain ⟨b2, rfl, rfl, rfl, w2⟩ := open_int Try.underlying3 (hval 2 3 v2 rfl rfl) h2
  clear hA0 hval0
  refine (peerLives_walk W a0 z0 v1 l1 t1 s1 b2 (wf64 w2)).mono fun e W' ⟨he, hg⟩ => ?_
  subst he
  exact ⟨_, rfl, post_law laidOut (by kernel_rfl) (by kernel_rfl) Try.underlying4 rfl hW' rfl rfl rfl hg⟩
set_option maxRecDepth 100000 in
theorem lifted (os : Os) (started : os.Started) (H : Type) (enc : TypeId × Value → H) (F : Stop.Interp) :
    ReturnsInHanded {} Try.checked os 4 .any ((OpenSpec.ofChange Rows.peerLivesSpec).preRow enc Try.prog Try.f4 Rows.peerLivesRow.domain false Rows.peerLivesRow.laid) (((OpenSpec.ofChange Rows.peerLivesSpec).at F).post enc Try.prog Try.f4 false true false false) := by
  refine returnsInHanded_of_row (C := Try.checked) (s := OpenSpec.ofChange Rows.peerLivesSpec) own started (by kernel_rfl) Try.func4
    (witness_laid (enc := enc) (C := Try.checked) (s := OpenSpec.ofChange Rows.peerLivesSpec) (laid := Rows.peerLivesRow.laid) #[.agg #[.bool false, .int .u64 0, .int .u64 0, .int .i64 0, .bool false, .int .i64 0, .int .i64 0, .int .i64 0, .int .i64 0, .int .i64 0], .slice none 0 0, .int .i64 0] (World.shaped_of_ZipB (by kernel_rfl) (by kernel_rfl)) (by kernel_rfl)
      (OpenSpec.preRow_of_cond 8 (x := ([.agg [.agg [.agg [.lit (.bool false), .lit (.int .u64 0), .lit (.int .u64 0)], .lit (.int .i64 0)], .lit (.bool false), .lit (.int .i64 0), .agg [.lit (.int .i64 0), .lit (.int .i64 0)], .lit (.int .i64 0), .lit (.int .i64 0)], .nil, .lit (.int .i64 0)], [], [])) (by kernel_rfl) (by kernel_rfl) (fun k hk => by cases hk) (by kernel_rfl)
        (by rw [MakeChecks.laidMetH_plain _ _ _ (by kernel_rfl)]; exact laidMet_laidAll _ (by kernel_rfl) (by kernel_rfl)))) ?_
  intro W base args ds gs before hval hW _ hcond _ _ hsh _
  exact contract H enc W base args ds gs before hval hW hsh
theorem over : Rows.peerLivesRow.holds Try.pinned (OpenSpec.ofChange Rows.peerLivesSpec) :=
  OpenClaim.holds_of_cond 4 Try.f4 rfl rfl rfl rfl rfl rfl rfl ⟨rfl, rfl, rfl, rfl, rfl⟩ rfl rfl rfl rfl rfl (by kernel_rfl) Try.func4 (by kernel_rfl)
    (of_decide_eq_true (by kernel_rfl)) (by unfold Func.isWrapper; first | (rw [if_pos (by decide +kernel)]; kernel_rfl) | (rw [if_neg (by decide +kernel)]; exact ⟨rfl, rfl⟩))
    (fun os started H enc _ F => by rw [OpenClaim.pre_eq_preRow]; exact lifted os started H enc F)
/-- ████ THE STATEMENT ████ -/
theorem proved : Rows.PeerLivesSaid := over
end peerLives
end Go.Proofs.Ytdlbhcakfciagaa
