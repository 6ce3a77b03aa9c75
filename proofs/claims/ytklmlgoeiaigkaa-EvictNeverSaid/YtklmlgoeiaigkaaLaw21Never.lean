/- The second statement of layer 21, proved: of peers with unlike ends, whoever is protected, or did not come, never goes, nor one that is among the first of all that came; and if somebody is not protected, somebody goes; for all lists of peers, all quotas and all secrets. -/
import Derived.Test.YtklmlgoeiaigkaaLaw21
namespace Go.Proofs.Ytklmlgoeiaigkaa
set_option maxRecDepth 100000
open Go.ChangeShapes Go.WideShapes Go.ChangeAt Go.RowKit
open Dec Words V4 V6 Ad Ci En Sat Ha Pe Stb Gr Mi Ra Sh Cw Ev Go.Deep
set_option linter.unusedVariables false
set_option maxHeartbeats 24000000 in
theorem evictNever_walk (w : World) (v : Value) (l : List Pr) (h : Peers w v l) (hok : ∀ x ∈ l, x.ok) (q : Qt) (hq : q.ok) (s : Nat) (hs : s < 18446744073709551616) :
    Calls Try.prog 4 #[v, .agg #[.int .i64 q.g, .int .i64 q.p, .int .i64 q.w, .int .i64 q.t], .int .u64 (s : Nat)] w fun e w' => e = .returned (.bool true) ∧ Below w.heap.size w w' := by
  have AW := Lib.hid (fun W => awake21_any W)
  have OB : Hid (Blk (w.alloc (.cells #[.int .i64 q.g, .int .i64 q.p, .int .i64 q.w, .int .i64 q.t] 24)) w.heap.size 24 [.int .i64 q.g, .int .i64 q.p, .int .i64 q.w, .int .i64 q.t]) := Lib.hid (Blk.new w #[.int .i64 q.g, .int .i64 q.p, .int .i64 q.w, .int .i64 q.t] 24)
  have L0 : Hid (Lows w (w.alloc (.cells #[.int .i64 q.g, .int .i64 q.p, .int .i64 q.w, .int .i64 q.t] 24))) := Lib.hid (Lows.alloc (Lows.self w) _)
  by_cases h30 : 30 < l.length
  · have h30z : (30 : Int) < (l.length : Int) := by omega
    obtain ⟨A, c, rfl, hc, _, hcell⟩ := h
    clear hcell hok hs hq
    go_enter Try.func4, Try.ntmps4
    go_wp2_with fail
    refine (AW.out _).mono ?_; rintro e w1 ⟨rfl, hb1⟩
    go_wp2_with fail
    go_ret
    exact ⟨rfl, low_trans L0.out hb1⟩
  · have h30z : ¬ (30 : Int) < (l.length : Int) := by omega
    have hl9 : l.length ≤ 900000 := by omega
    have KU := Lib.hid (unlike_any v l (w.alloc (.cells #[.int .i64 q.g, .int .i64 q.p, .int .i64 q.w, .int .i64 q.t] 24)) (h.below L0.out) (by omega))
    by_cases hu : Unlike l
    · rw [unlikeB_yes hu] at KU
      have K1 : Hid (∀ W, Lows (w.alloc (.cells #[.int .i64 q.g, .int .i64 q.p, .int .i64 q.w, .int .i64 q.t] 24)) W → Calls Try.prog 7 #[v, .agg #[.int .i64 q.g, .int .i64 q.p, .int .i64 q.w, .int .i64 q.t], .int .u64 (s : Nat)] W fun e w' => e = .returned (.tuple #[.agg #[.bool (exitR (candR l q s)).a.v6, .int .u64 (exitR (candR l q s)).a.hi, .int .u64 (exitR (candR l q s)).a.lo, .int .i64 (exitR (candR l q s)).n], .bool (decide (0 < (candR l q s).length))]) ∧ Below W.heap.size W w') := Lib.hid fun W hW => choose_any v l q s W (h.below (low_trans L0.out hW)) hok hl9 hs
      have K2 : Hid (∀ W, Lows (w.alloc (.cells #[.int .i64 q.g, .int .i64 q.p, .int .i64 q.w, .int .i64 q.t] 24)) W → Calls Try.prog 13 #[v] W fun e w' => ∃ u, e = .returned u ∧ Peers w' u (cameR l) ∧ Below W.heap.size W w') := Lib.hid fun W hW => rcame_any v l W (h.below (low_trans L0.out hW)) hl9
      have HOC := Lib.hid (came_ok hok)
      have hmL : (cameR l).length ≤ 900000 := Nat.le_trans (came_le l) hl9
      have KS : Hid (∀ W u, Peers W u (cameR l) → Calls Try.prog 14 #[u, .agg #[.int .i64 q.g, .int .i64 q.p, .int .i64 q.w, .int .i64 q.t], .int .u64 (s : Nat)] W fun e w' => ∃ u, e = .returned u ∧ BoolsI w' u (ls (cameR l).length (savedR (cameR l) q s 4)) ∧ Below W.heap.size W w') := Lib.hid fun W u hp => rsaved_any u (cameR l) q s W hp (came_ok hok) (by omega) hs
      have KJ : Hid (∀ W u (i : Nat), Peers W u (cameR l) → Calls Try.prog 15 #[u, .int .i64 i, .agg #[.int .i64 q.g, .int .i64 q.p, .int .i64 q.w, .int .i64 q.t], .int .u64 (s : Nat)] W fun e w' => e = .returned (.bool (insideR (cameR l) i q s)) ∧ Below W.heap.size W w') := Lib.hid fun W u i hp => rinside_any u (cameR l) i q s W hp (came_ok hok) (by omega) hs
      have HCN : Hid ((candR l q s).length = (restR (cameR l).length (savedR (cameR l) q s 4)).length) := Lib.hid (cand_length l q s)
      have HNEV : Hid (0 < (candR l q s).length → ∀ i, i < (cameR l).length → (((cameR l)[i]!).e = exitR (candR l q s) → savedR (cameR l) q s 4 i = false ∧ insideR (cameR l) i q s = false)) := Lib.hid fun hc i hi he => never hu hi hc he
      have HFND : Hid (0 < (candR l q s).length → fndR (cameR l) (exitR (candR l q s)) (cameR l).length = true) := Lib.hid fun hc => fnd_done hc
      have HZ : Hid ((candR l q s).length = 0 → exitR (candR l q s) = zeroE) := Lib.hid fun h0 => by unfold exitR; rw [if_pos h0]
      obtain ⟨I, hI⟩ : ∃ I : Nat → Bool, I = fun i : Nat => insideR (cameR l) (i : Int) q s := ⟨_, rfl⟩
      have KJ2 : Hid (∀ W u (i : Nat), Peers W u (cameR l) → Calls Try.prog 15 #[u, .int .i64 i, .agg #[.int .i64 q.g, .int .i64 q.p, .int .i64 q.w, .int .i64 q.t], .int .u64 (s : Nat)] W fun e w' => e = .returned (.bool (I i)) ∧ Below W.heap.size W w') := Lib.hid (by rw [hI]; exact KJ.out)
      have HNEV2 : Hid (0 < (candR l q s).length → ∀ i, i < (cameR l).length → (((cameR l)[i]!).e = exitR (candR l q s) → savedR (cameR l) q s 4 i = false ∧ I i = false)) := Lib.hid (by rw [hI]; exact HNEV.out)
      clear hI KJ HNEV
      generalize exitR (candR l q s) = E at *
      generalize (candR l q s).length = m at *
      generalize savedR (cameR l) q s 4 = S at *
      generalize cameR l = M at *
      obtain ⟨A, c, rfl, hc, _, hcell⟩ := h
      clear hcell hok hs hq hc hl9 hu
      have bc0 := OB.out.cell (j := 0) rfl
      have bc1 := OB.out.cell (j := 1) rfl
      have bc2 := OB.out.cell (j := 2) rfl
      have bc3 := OB.out.cell (j := 3) rfl
      by_cases hm0 : 0 < m
      · have hmd : decide (0 < m) = true := decide_eq_true hm0
        rw [hmd] at K1
        have HNEV3 := Lib.hid (HNEV2.out hm0)
        have HFN2 := Lib.hid (HFND.out hm0)
        clear HNEV2 HFND HZ
        have HPOS : Hid (0 < (restR M.length S).length) := Lib.hid (by have := HCN.out; omega)
        clear hmd hm0 HCN
        go_enter Try.func4, Try.ntmps4
        go_wp2_with fail
        refine KU.out.mono ?_; rintro e w9 ⟨rfl, hb9⟩
        have L9 : Hid (Lows (w.alloc (.cells #[.int .i64 q.g, .int .i64 q.p, .int .i64 q.w, .int .i64 q.t] 24)) w9) := Lib.hid hb9
        clear hb9 bc0 bc1 bc2 bc3 KU
        have bc0 := Blk.in OB L9.out (j := 0) rfl
        have bc1 := Blk.in OB L9.out (j := 1) rfl
        have bc2 := Blk.in OB L9.out (j := 2) rfl
        have bc3 := Blk.in OB L9.out (j := 3) rfl
        go_wp2_with fail
        refine (K1.out _ L9.out).mono ?_; rintro e w1 ⟨rfl, hb1⟩
        have L1 : Hid (Lows (w.alloc (.cells #[.int .i64 q.g, .int .i64 q.p, .int .i64 q.w, .int .i64 q.t] 24)) (w1.alloc (.cells #[.bool E.a.v6, .int .u64 E.a.hi, .int .u64 E.a.lo, .int .i64 E.n] 30))) := Lib.hid (Lows.alloc (low_trans L9.out hb1) _)
        have OE := Lib.hid (Blk.new w1 #[.bool E.a.v6, .int .u64 E.a.hi, .int .u64 E.a.lo, .int .i64 E.n] 30)
        clear hb1 bc0 bc1 bc2 bc3 K1 L9
        go_wp2_with fail
        refine (K2.out _ L1.out).mono ?_; rintro e w2 ⟨u2, rfl, hU, hb2⟩
        have L2 : Hid (Lows (w.alloc (.cells #[.int .i64 q.g, .int .i64 q.p, .int .i64 q.w, .int .i64 q.t] 24)) w2) := Lib.hid (low_trans L1.out hb2)
        have HL2 : Hid (Lows (w1.alloc (.cells #[.bool E.a.v6, .int .u64 E.a.hi, .int .u64 E.a.lo, .int .i64 E.n] 30)) w2) := Lib.hid hb2
        have KS2 := Lib.hid (KS.out w2 u2 hU)
        have HU := Lib.hid hU
        clear hb2 hU K2 KS L1
        have bc0 := Blk.in OB L2.out (j := 0) rfl
        have bc1 := Blk.in OB L2.out (j := 1) rfl
        have bc2 := Blk.in OB L2.out (j := 2) rfl
        have bc3 := Blk.in OB L2.out (j := 3) rfl
        go_wp2_with fail
        refine KS2.out.mono ?_; rintro e w3 ⟨u3, rfl, hB, hb3⟩
        have L3 : Hid (Lows (w.alloc (.cells #[.int .i64 q.g, .int .i64 q.p, .int .i64 q.w, .int .i64 q.t] 24)) w3) := Lib.hid (low_trans L2.out hb3)
        have HL3 : Hid (Lows (w1.alloc (.cells #[.bool E.a.v6, .int .u64 E.a.hi, .int .u64 E.a.lo, .int .i64 E.n] 30)) w3) := Lib.hid (low_trans HL2.out hb3)
        have hU := HU.out.below hb3
        clear hb3 HL2 L2 KS2 bc0 bc1 bc2 bc3 HU
        have HUU := Lib.hid hU
        obtain ⟨A2, c2, rfl, hc2, _, hcell2⟩ := hU
        obtain ⟨A3, c3, rfl, hc3, _, hcell3⟩ := hB
        have HC := Lib.hid hcell2
        have HC2 := Lib.hid hcell3
        have HLN : Hid ((ls M.length S).length = M.length) := Lib.hid (ls_length _ S)
        rw [ls_length]
        have KI0 : Hid (∀ (W : World) (i : Nat), Lows w3 W → Calls Try.prog 15 #[.slice A2 M.length c2, .int .i64 i, .agg #[.int .i64 q.g, .int .i64 q.p, .int .i64 q.w, .int .i64 q.t], .int .u64 (s : Nat)] W fun e w' => e = .returned (.bool (I i)) ∧ Below W.heap.size W w') := Lib.hid fun W i hW => KJ2.out W _ i (HUU.out.below hW)
        clear hc2 hcell2 hc3 hcell3 KJ2 HUU
        go_wp2_with fail
        go_loopw [11, 12, 13] (fun vo vf vi wr => ∃ (i n : Nat) (f : Bool), vo = .int .i64 n ∧ vf = .bool f ∧ vi = .int .i64 i ∧ i ≤ M.length ∧ n ≤ 900000 ∧ Hid (n = (restR i S).length) ∧ Hid (f = (true && fndR M E i)) ∧ Hid (Lows w3 wr)) (fun _ _ vi _ => M.length - (intOf vi).toNat)
        case atStart => exact ⟨0, 0, false, rfl, rfl, rfl, Nat.zero_le _, Nat.zero_le _, Lib.hid rfl, Lib.hid rfl, Lib.hid (Lows.self _)⟩
        case round =>
          obtain ⟨i, n, f, rfl, rfl, rfl, hi, hn9, HN, HF, HL⟩ := hrel
          have HLW : Hid (Lows (w.alloc (.cells #[.int .i64 q.g, .int .i64 q.p, .int .i64 q.w, .int .i64 q.t] 24)) wr) := Lib.hid (low_trans L3.out HL.out)
          by_cases hli : i < M.length
          · have hliz : (i : Int) < (M.length : Int) := by omega
            obtain ⟨bb, o, rfl, hb, hcc⟩ := HC.out (by omega)
            obtain ⟨b2, o2, rfl, hb2, hcc2⟩ := HC2.out (by rw [HLN.out]; omega)
            have e0 := bool_at HL.out hb2 hcc2 hli
            have HS9 : Hid (∀ W, Lows wr W → W.cell? ⟨b2, o2 + i, none⟩ = some (.bool (S i))) := Lib.hid fun W h => bool_at (low_trans HL.out h) hb2 hcc2 hli
            have hn8 : (n : Int) ≤ 900000 := by omega
            have HNN : Hid ((restR (i + 1) S).length ≤ 900000) := Lib.hid (by have := rest_le (i + 1) S; omega)
            have hne : Nonempty (Cls (Lows wr)) := ⟨⟨_, Lows.self _⟩⟩
            obtain ⟨x, hx⟩ : ∃ x, x = M[i]! := ⟨_, rfl⟩
            have f0 : ∀ nq : Cls (Lows wr), nq.w.cell? ⟨bb, o + i * 10, none⟩ = some (.bool x.e.a.v6) := fun nq => by rw [hx]; exact peer_at (low_trans HL.out nq.h) hb hcc hli (j := 0) rfl
            have f1 : ∀ nq : Cls (Lows wr), nq.w.cell? ⟨bb, o + i * 10 + 1, none⟩ = some (.int .u64 x.e.a.hi) := fun nq => by rw [hx]; exact peer_at (low_trans HL.out nq.h) hb hcc hli (j := 1) rfl
            have f2 : ∀ nq : Cls (Lows wr), nq.w.cell? ⟨bb, o + i * 10 + 2, none⟩ = some (.int .u64 x.e.a.lo) := fun nq => by rw [hx]; exact peer_at (low_trans HL.out nq.h) hb hcc hli (j := 2) rfl
            have f3 : ∀ nq : Cls (Lows wr), nq.w.cell? ⟨bb, o + i * 10 + 3, none⟩ = some (.int .i64 x.e.n) := fun nq => by rw [hx]; exact peer_at (low_trans HL.out nq.h) hb hcc hli (j := 3) rfl
            have g0 : ∀ nq : Cls (Lows wr), nq.w.cell? ⟨w1.heap.size, 0, none⟩ = some (.bool E.a.v6) := fun nq => Blk.in OE (low_trans HL3.out (low_trans HL.out nq.h)) rfl
            have g1 : ∀ nq : Cls (Lows wr), nq.w.cell? ⟨w1.heap.size, 1, none⟩ = some (.int .u64 E.a.hi) := fun nq => Blk.in OE (low_trans HL3.out (low_trans HL.out nq.h)) rfl
            have g2 : ∀ nq : Cls (Lows wr), nq.w.cell? ⟨w1.heap.size, 2, none⟩ = some (.int .u64 E.a.lo) := fun nq => Blk.in OE (low_trans HL3.out (low_trans HL.out nq.h)) rfl
            have g3 : ∀ nq : Cls (Lows wr), nq.w.cell? ⟨w1.heap.size, 3, none⟩ = some (.int .i64 E.n) := fun nq => Blk.in OE (low_trans HL3.out (low_trans HL.out nq.h)) rfl
            have Hx := Lib.hid hx
            have EQ := fun W => eqEnd x.e E W
            have HNV := HNEV3.out i hli
            rw [← hx] at HNV
            clear hx
            clear hcc hb hcc2 hb2
            cases hS : S i with
            | true =>
              cases hs : sameE x.e E with
              | false =>
                rw [hS] at e0 HS9
                have HN2 : Hid ((restR (i + 1) S).length = n) := Lib.hid (by rw [rest_yes hS]; exact HN.out.symm)
                have HF2 : Hid (f = (true && fndR M E (i + 1))) := Lib.hid (by rw [fnd_next, ← Hx.out, hs, Bool.or_false]; exact HF.out)
                rw [hs] at EQ
                clear hs HNV
                clear hS
                go_wp2_with fail
                refine Cls.region (Lows wr) (by kernel_rfl) (by kernel_rfl) (low_drewN (Below.refl _ _) 1) ?_
                (try dsimp only [List.append])
                repeat (go_big_quiet_step (first | fail))
                refine wpQuiet_nil ?_
                intro n9
                have hk9 := n9.h
                generalize n9.w = w9 at hk9 ⊢
                clear hne n9 EQ f0 f1 f2 f3 g0 g1 g2 g3
                have HL9 : Hid (Lows w3 w9) := Lib.hid (low_trans HL.out hk9)
                go_wp2_with fail
                go_roundw
                case rel => exact ⟨i + 1, n, f, rfl, rfl, by go_num, by omega, by have := HNN.out; have := HN2.out; omega, Lib.hid HN2.out.symm, HF2, HL9⟩
                case measure => simp [intOf]; omega
              | true =>
                have := (HNV ((sameE_iff _ _).1 hs)).1
                rw [hS] at this; cases this
            | false =>
              cases hs : sameE x.e E with
              | false =>
                rw [hS] at e0 HS9
                have HN2 : Hid ((restR (i + 1) S).length = n + 1) := Lib.hid (by rw [rest_no hS, List.length_append]; have := HN.out; simp; omega)
                have HF2 : Hid (f = (true && fndR M E (i + 1))) := Lib.hid (by rw [fnd_next, ← Hx.out, hs, Bool.or_false]; exact HF.out)
                rw [hs] at EQ
                clear hs HNV
                clear hS
                go_wp2_with fail
                refine Cls.region (Lows wr) (by kernel_rfl) (by kernel_rfl) (low_drewN (Below.refl _ _) 1) ?_
                (try dsimp only [List.append])
                repeat (go_big_quiet_step (first | fail))
                refine wpQuiet_nil ?_
                intro n9
                have hk9 := n9.h
                generalize n9.w = w9 at hk9 ⊢
                clear hne n9 EQ f0 f1 f2 f3 g0 g1 g2 g3
                have HL9 : Hid (Lows w3 w9) := Lib.hid (low_trans HL.out hk9)
                go_wp2_with fail
                go_roundw
                case rel => exact ⟨i + 1, n + 1, f, by go_num, rfl, by go_num, by omega, by have := HNN.out; have := HN2.out; omega, Lib.hid HN2.out.symm, HF2, HL9⟩
                case measure => simp [intOf]; omega
              | true =>
                rw [hS] at e0 HS9
                have HN2 : Hid ((restR (i + 1) S).length = n + 1) := Lib.hid (by rw [rest_no hS, List.length_append]; have := HN.out; simp; omega)
                have HF2 : Hid (true = (true && fndR M E (i + 1))) := Lib.hid (by rw [fnd_next, ← Hx.out, hs, Bool.or_true, Bool.and_true])
                rw [hs] at EQ
                have KI := Lib.hid (fun (W : World) (hW : Lows w3 W) => KI0.out W i hW)
                rw [(HNV ((sameE_iff _ _).1 hs)).2] at KI
                clear hs HNV
                clear hS
                go_wp2_with fail
                refine Cls.region (Lows wr) (by kernel_rfl) (by kernel_rfl) (low_drewN (Below.refl _ _) 1) ?_
                (try dsimp only [List.append])
                repeat (go_big_quiet_step (first | fail))
                refine wpQuiet_nil ?_
                intro n9
                have hk9 := n9.h
                generalize n9.w = w9 at hk9 ⊢
                clear hne n9 EQ f0 f1 f2 f3 g0 g1 g2 g3
                have HL9 : Hid (Lows w3 w9) := Lib.hid (low_trans HL.out hk9)
                have e9 := HS9.out w9 hk9
                have bc0 := Blk.in OB (low_trans HLW.out hk9) (j := 0) rfl
                have bc1 := Blk.in OB (low_trans HLW.out hk9) (j := 1) rfl
                have bc2 := Blk.in OB (low_trans HLW.out hk9) (j := 2) rfl
                have bc3 := Blk.in OB (low_trans HLW.out hk9) (j := 3) rfl
                have HLK := Lib.hid (low_trans HLW.out hk9)
                clear hk9
                go_wp2_with fail
                refine (KI.out _ HL9.out).mono ?_; rintro e w10 ⟨rfl, hb10⟩
                have HL10 : Hid (Lows w3 w10) := Lib.hid (low_trans HL9.out hb10)
                clear hb10 bc0 bc1 bc2 bc3 e9
                go_wp2_with fail
                go_roundw
                case rel => exact ⟨i + 1, n + 1, true, by go_num, rfl, by go_num, by omega, by have := HNN.out; have := HN2.out; omega, Lib.hid HN2.out.symm, HF2, HL10⟩
                case measure => simp [intOf]; omega
          · have hliz : ¬ (i : Int) < (M.length : Int) := by omega
            have HNE : Hid (n = (restR M.length S).length) := Lib.hid (by rw [show M.length = i by omega]; exact HN.out)
            have hn1 : (0 : Int) < (n : Int) := by have := HNE.out; have := HPOS.out; omega
            have hn2 : decide ((0 : Int) < (n : Int)) = true := decide_eq_true hn1
            have hn3 : 0 < n := by omega
            have hft : f = true := by rw [HF.out, show i = M.length by omega, HFN2.out]; rfl
            subst hft
            have k0 := Blk.in OE (low_trans HL3.out HL.out) (j := 0) rfl
            have k1 := Blk.in OE (low_trans HL3.out HL.out) (j := 1) rfl
            have k2 := Blk.in OE (low_trans HL3.out HL.out) (j := 2) rfl
            have k3 := Blk.in OE (low_trans HL3.out HL.out) (j := 3) rfl
            have HLF : Hid (Lows w wr) := Lib.hid (low_trans L0.out HLW.out)
            clear HLW HC HC2 HLN
            go_wp2_with fail
            refine (AW.out _).mono ?_; rintro e w10 ⟨rfl, hb10⟩
            go_wp2_with fail
            go_ret
            exact ⟨rfl, low_trans HLF.out hb10⟩
      · have HZ2 := HZ.out (by omega)
        have hmd : decide (0 < m) = false := decide_eq_false hm0
        rw [hmd] at K1
        have HZ3 := Lib.hid HZ2
        clear HNEV2 HFND HZ HZ2
        have HPOS : Hid ((restR M.length S).length = 0) := Lib.hid (by have := HCN.out; omega)
        clear hmd hm0 HCN
        go_enter Try.func4, Try.ntmps4
        go_wp2_with fail
        refine KU.out.mono ?_; rintro e w9 ⟨rfl, hb9⟩
        have L9 : Hid (Lows (w.alloc (.cells #[.int .i64 q.g, .int .i64 q.p, .int .i64 q.w, .int .i64 q.t] 24)) w9) := Lib.hid hb9
        clear hb9 bc0 bc1 bc2 bc3 KU
        have bc0 := Blk.in OB L9.out (j := 0) rfl
        have bc1 := Blk.in OB L9.out (j := 1) rfl
        have bc2 := Blk.in OB L9.out (j := 2) rfl
        have bc3 := Blk.in OB L9.out (j := 3) rfl
        go_wp2_with fail
        refine (K1.out _ L9.out).mono ?_; rintro e w1 ⟨rfl, hb1⟩
        have L1 : Hid (Lows (w.alloc (.cells #[.int .i64 q.g, .int .i64 q.p, .int .i64 q.w, .int .i64 q.t] 24)) (w1.alloc (.cells #[.bool E.a.v6, .int .u64 E.a.hi, .int .u64 E.a.lo, .int .i64 E.n] 30))) := Lib.hid (Lows.alloc (low_trans L9.out hb1) _)
        have OE := Lib.hid (Blk.new w1 #[.bool E.a.v6, .int .u64 E.a.hi, .int .u64 E.a.lo, .int .i64 E.n] 30)
        clear hb1 bc0 bc1 bc2 bc3 K1 L9
        go_wp2_with fail
        refine (K2.out _ L1.out).mono ?_; rintro e w2 ⟨u2, rfl, hU, hb2⟩
        have L2 : Hid (Lows (w.alloc (.cells #[.int .i64 q.g, .int .i64 q.p, .int .i64 q.w, .int .i64 q.t] 24)) w2) := Lib.hid (low_trans L1.out hb2)
        have HL2 : Hid (Lows (w1.alloc (.cells #[.bool E.a.v6, .int .u64 E.a.hi, .int .u64 E.a.lo, .int .i64 E.n] 30)) w2) := Lib.hid hb2
        have KS2 := Lib.hid (KS.out w2 u2 hU)
        have HU := Lib.hid hU
        clear hb2 hU K2 KS L1
        have bc0 := Blk.in OB L2.out (j := 0) rfl
        have bc1 := Blk.in OB L2.out (j := 1) rfl
        have bc2 := Blk.in OB L2.out (j := 2) rfl
        have bc3 := Blk.in OB L2.out (j := 3) rfl
        go_wp2_with fail
        refine KS2.out.mono ?_; rintro e w3 ⟨u3, rfl, hB, hb3⟩
        have L3 : Hid (Lows (w.alloc (.cells #[.int .i64 q.g, .int .i64 q.p, .int .i64 q.w, .int .i64 q.t] 24)) w3) := Lib.hid (low_trans L2.out hb3)
        have HL3 : Hid (Lows (w1.alloc (.cells #[.bool E.a.v6, .int .u64 E.a.hi, .int .u64 E.a.lo, .int .i64 E.n] 30)) w3) := Lib.hid (low_trans HL2.out hb3)
        have hU := HU.out.below hb3
        clear hb3 HL2 L2 KS2 bc0 bc1 bc2 bc3 HU
        have HUU := Lib.hid hU
        obtain ⟨A2, c2, rfl, hc2, _, hcell2⟩ := hU
        obtain ⟨A3, c3, rfl, hc3, _, hcell3⟩ := hB
        have HC := Lib.hid hcell2
        have HC2 := Lib.hid hcell3
        have HLN : Hid ((ls M.length S).length = M.length) := Lib.hid (ls_length _ S)
        rw [ls_length]
        have KI0 : Hid (∀ (W : World) (i : Nat), Lows w3 W → Calls Try.prog 15 #[.slice A2 M.length c2, .int .i64 i, .agg #[.int .i64 q.g, .int .i64 q.p, .int .i64 q.w, .int .i64 q.t], .int .u64 (s : Nat)] W fun e w' => e = .returned (.bool (I i)) ∧ Below W.heap.size W w') := Lib.hid fun W i hW => KJ2.out W _ i (HUU.out.below hW)
        clear hc2 hcell2 hc3 hcell3 KJ2 HUU
        go_wp2_with fail
        go_loopw [11, 12, 13] (fun vo vf vi wr => ∃ (i n : Nat) (f : Bool), vo = .int .i64 n ∧ vf = .bool f ∧ vi = .int .i64 i ∧ i ≤ M.length ∧ n ≤ 900000 ∧ Hid (n = (restR i S).length) ∧ Hid (f = (false && fndR M E i)) ∧ Hid (Lows w3 wr)) (fun _ _ vi _ => M.length - (intOf vi).toNat)
        case atStart => exact ⟨0, 0, false, rfl, rfl, rfl, Nat.zero_le _, Nat.zero_le _, Lib.hid rfl, Lib.hid rfl, Lib.hid (Lows.self _)⟩
        case round =>
          obtain ⟨i, n, f, rfl, rfl, rfl, hi, hn9, HN, HF, HL⟩ := hrel
          have HLW : Hid (Lows (w.alloc (.cells #[.int .i64 q.g, .int .i64 q.p, .int .i64 q.w, .int .i64 q.t] 24)) wr) := Lib.hid (low_trans L3.out HL.out)
          by_cases hli : i < M.length
          · have hliz : (i : Int) < (M.length : Int) := by omega
            obtain ⟨bb, o, rfl, hb, hcc⟩ := HC.out (by omega)
            obtain ⟨b2, o2, rfl, hb2, hcc2⟩ := HC2.out (by rw [HLN.out]; omega)
            have e0 := bool_at HL.out hb2 hcc2 hli
            have HS9 : Hid (∀ W, Lows wr W → W.cell? ⟨b2, o2 + i, none⟩ = some (.bool (S i))) := Lib.hid fun W h => bool_at (low_trans HL.out h) hb2 hcc2 hli
            have hn8 : (n : Int) ≤ 900000 := by omega
            have HNN : Hid ((restR (i + 1) S).length ≤ 900000) := Lib.hid (by have := rest_le (i + 1) S; omega)
            have hne : Nonempty (Cls (Lows wr)) := ⟨⟨_, Lows.self _⟩⟩
            clear hcc hb hcc2 hb2
            cases hS : S i with
            | true =>
              rw [hS] at e0 HS9
              have HN2 : Hid ((restR (i + 1) S).length = n) := Lib.hid (by rw [rest_yes hS]; exact HN.out.symm)
              have HF2 : Hid (f = (false && fndR M E (i + 1))) := Lib.hid (by rw [Bool.false_and]; exact HF.out.trans (Bool.false_and _))
              clear hS
              go_wp2_with fail
              refine Cls.region (Lows wr) (by kernel_rfl) (by kernel_rfl) (low_drewN (Below.refl _ _) 1) ?_
              (try dsimp only [List.append])
              repeat (go_big_quiet_step (first | fail))
              refine wpQuiet_nil ?_
              intro n9
              have hk9 := n9.h
              generalize n9.w = w9 at hk9 ⊢
              clear hne n9 
              have HL9 : Hid (Lows w3 w9) := Lib.hid (low_trans HL.out hk9)
              go_wp2_with fail
              go_roundw
              case rel => exact ⟨i + 1, n, f, rfl, rfl, by go_num, by omega, by have := HNN.out; have := HN2.out; omega, Lib.hid HN2.out.symm, HF2, HL9⟩
              case measure => simp [intOf]; omega
            | false =>
              rw [hS] at e0 HS9
              have HN2 : Hid ((restR (i + 1) S).length = n + 1) := Lib.hid (by rw [rest_no hS, List.length_append]; have := HN.out; simp; omega)
              have HF2 : Hid (f = (false && fndR M E (i + 1))) := Lib.hid (by rw [Bool.false_and]; exact HF.out.trans (Bool.false_and _))
              clear hS
              go_wp2_with fail
              refine Cls.region (Lows wr) (by kernel_rfl) (by kernel_rfl) (low_drewN (Below.refl _ _) 1) ?_
              (try dsimp only [List.append])
              repeat (go_big_quiet_step (first | fail))
              refine wpQuiet_nil ?_
              intro n9
              have hk9 := n9.h
              generalize n9.w = w9 at hk9 ⊢
              clear hne n9 
              have HL9 : Hid (Lows w3 w9) := Lib.hid (low_trans HL.out hk9)
              go_wp2_with fail
              go_roundw
              case rel => exact ⟨i + 1, n + 1, f, by go_num, rfl, by go_num, by omega, by have := HNN.out; have := HN2.out; omega, Lib.hid HN2.out.symm, HF2, HL9⟩
              case measure => simp [intOf]; omega
          · have hliz : ¬ (i : Int) < (M.length : Int) := by omega
            have HNE : Hid (n = (restR M.length S).length) := Lib.hid (by rw [show M.length = i by omega]; exact HN.out)
            have hn0 : n = 0 := by have := HNE.out; have := HPOS.out; omega
            subst hn0
            have hff : f = false := HF.out.trans (Bool.false_and _)
            subst hff
            have EQ := fun W => eqEnd zeroE zeroE W
            rw [show sameE zeroE zeroE = true from (sameE_iff _ _).2 rfl] at EQ
            have hzE := HZ3.out
            subst hzE
            have k0 := Blk.in OE (low_trans HL3.out HL.out) (j := 0) rfl
            have k1 := Blk.in OE (low_trans HL3.out HL.out) (j := 1) rfl
            have k2 := Blk.in OE (low_trans HL3.out HL.out) (j := 2) rfl
            have k3 := Blk.in OE (low_trans HL3.out HL.out) (j := 3) rfl
            have HLF : Hid (Lows w wr) := Lib.hid (low_trans L0.out HLW.out)
            clear HLW HC HC2 HLN
            go_wp2_with fail
            refine (AW.out _).mono ?_; rintro e w10 ⟨rfl, hb10⟩
            go_wp2_with fail
            go_ret
            exact ⟨rfl, low_trans HLF.out hb10⟩
    · rw [unlikeB_no hu] at KU
      obtain ⟨A, c, rfl, hc, _, hcell⟩ := h
      clear hcell hok hs hq hu
      go_enter Try.func4, Try.ntmps4
      go_wp2_with fail
      refine KU.out.mono ?_; rintro e w9 ⟨rfl, hb9⟩
      have L9 := Lib.hid (low_trans L0.out hb9)
      clear hb9
      go_wp2_with fail
      refine (AW.out _).mono ?_; rintro e w1 ⟨rfl, hb1⟩
      go_wp2_with fail
      go_ret
      exact ⟨rfl, low_trans L9.out hb1⟩
namespace evictNever
theorem contract (H : Type) (enc : TypeId × Value → H) (W : World) (base : Nat) (args : Array Value) (ds gs : List (DataW H)) (before : List MemPlace)
    (hval0 : ∀ (j : Nat) t v, Try.f4.params[j]? = some t → args[j]? = some v → Value.okWide Try.prog W .any base t v)
    (hW : DataW.Whole enc Try.prog Try.f4.params.toList Rows.evictNeverSpec.vars false W args.toList ds gs before) (hSh : W.ShapedOpen Try.prog) :
    Calls Try.prog 4 args W fun e W' => ∃ v, e = .returned v ∧ Rows.evictNeverSpec.post enc Try.prog Try.f4 false true false false W args v W' := by
  have hval : ∀ (j : Nat) t v, Try.f4.params[j]? = some t → args[j]? = some v → Value.okWide Try.prog W .any base t v := hval0
  have hW' := hW
  obtain ⟨p, q, hA0, hV, _, _, _⟩ := hW
  have hA : DataW.TrodAll enc Try.prog W 0 (fun _ => true) true Try.f4.params.toList args.toList ds p := hA0
  rw [Try.params4] at hA hval
  obtain ⟨v0, vs0, d0, ds0, p0, q0, hargs, rfl, rfl, h0, r0⟩ := trodAll_cons hA
  obtain ⟨v1, vs1, d1, ds1, p1, q1, rfl, rfl, rfl, h1, r1⟩ := trodAll_cons r0
  obtain ⟨v2, vs2, d2, ds2, p2, q2, rfl, rfl, rfl, h2, r2⟩ := trodAll_cons r1
  obtain ⟨rfl, rfl, rfl⟩ := trodAll_nil r2
  obtain rfl : args = #[v0, v1, v2] := by cases args; simp_all
  obtain ⟨rfl, rfl⟩ := trodVars_none hV
  obtain ⟨l0, t0, n0, s0⟩ := open_peers (hval 0 22 v0 rfl rfl) h0
  obtain ⟨a1, z1, rfl⟩ := open_quota (hval 1 24 v1 rfl rfl) h1
  obtain ⟨b2, rfl, rfl, rfl, w2⟩ := open_int Try.underlying25 (hval 2 25 v2 rfl rfl) h2
  obtain ⟨a2, rfl, z2⟩ := nat_of_u64 w2
  clear hA0 hval0
  refine (evictNever_walk W v0 l0 t0 s0 a1 z1 a2 z2).mono fun e W' ⟨he, hg⟩ => ?_
  subst he
  exact ⟨_, rfl, post_law laidOut (by kernel_rfl) (by kernel_rfl) Try.underlying4 rfl hW' rfl rfl rfl hg⟩
set_option maxRecDepth 100000 in
theorem lifted (os : Os) (started : os.Started) (H : Type) (enc : TypeId × Value → H) (F : Stop.Interp) :
    ReturnsInHanded {} Try.checked os 4 .any ((OpenSpec.ofChange Rows.evictNeverSpec).preRow enc Try.prog Try.f4 Rows.evictNeverRow.domain false Rows.evictNeverRow.laid) (((OpenSpec.ofChange Rows.evictNeverSpec).at F).post enc Try.prog Try.f4 false true false false) := by
  refine returnsInHanded_of_row (C := Try.checked) (s := OpenSpec.ofChange Rows.evictNeverSpec) own started (by kernel_rfl) Try.func4
    (witness_laid (enc := enc) (C := Try.checked) (s := OpenSpec.ofChange Rows.evictNeverSpec) (laid := Rows.evictNeverRow.laid) #[.slice none 0 0, .agg #[.int .i64 0, .int .i64 0, .int .i64 0, .int .i64 0], .int .u64 0] (World.shaped_of_ZipB (by kernel_rfl) (by kernel_rfl)) (by kernel_rfl)
      (OpenSpec.preRow_of_cond 8 (x := ([.nil, .agg [.lit (.int .i64 0), .lit (.int .i64 0), .lit (.int .i64 0), .lit (.int .i64 0)], .lit (.int .u64 0)], [], [])) (by kernel_rfl) (by kernel_rfl) (fun k hk => by cases hk) (by kernel_rfl)
        (by rw [MakeChecks.laidMetH_plain _ _ _ (by kernel_rfl)]; exact laidMet_laidAll _ (by kernel_rfl) (by kernel_rfl)))) ?_
  intro W base args ds gs before hval hW _ hcond _ _ hsh _
  exact contract H enc W base args ds gs before hval hW hsh
theorem over : Rows.evictNeverRow.holds Try.pinned (OpenSpec.ofChange Rows.evictNeverSpec) :=
  OpenClaim.holds_of_cond 4 Try.f4 rfl rfl rfl rfl rfl rfl rfl ⟨rfl, rfl, rfl, rfl, rfl⟩ rfl rfl rfl rfl rfl (by kernel_rfl) Try.func4 (by kernel_rfl)
    (of_decide_eq_true (by kernel_rfl)) (by unfold Func.isWrapper; first | (rw [if_pos (by decide +kernel)]; kernel_rfl) | (rw [if_neg (by decide +kernel)]; exact ⟨rfl, rfl⟩))
    (fun os started H enc _ F => by rw [OpenClaim.pre_eq_preRow]; exact lifted os started H enc F)
/-- ████ THE STATEMENT ████ -/
theorem proved : Rows.EvictNeverSaid := over
end evictNever
end Go.Proofs.Ytklmlgoeiaigkaa
