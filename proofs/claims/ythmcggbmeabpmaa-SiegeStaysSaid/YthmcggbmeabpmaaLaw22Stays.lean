/- The theorem of sieges, proved: whoever is inside a quota, whoever comes, is there at last; and never more came than may, unless they had; for all lists of peers with unlike ends, all that come and all sites. -/
import Derived.Test.YthmcggbmeabpmaaLaw22
namespace Go.Proofs.Ythmcggbmeabpmaa
set_option maxRecDepth 100000
open Go.ChangeShapes Go.WideShapes Go.ChangeAt Go.RowKit
open Dec Words V4 V6 Ad Ci En Sat Ha Pe Stb Gr Mi Ra Sh Cw Ev Si Go.Deep
set_option linter.unusedVariables false
set_option linter.unusedSimpArgs false
abbrev S25 (w : World) (S : Sit) (wr w' : World) : Prop := w'.cell? ⟨w.heap.size, 0, none⟩ = some (.int .i64 S.m) ∧ Lows wr w'
set_option maxHeartbeats 24000000 in
theorem siegeStays_walk (w : World) (v1 : Value) (l : List Pr) (h1 : Peers w v1 l) (hok1 : ∀ x ∈ l, x.ok) (v2 : Value) (news : List Pr) (h2 : Peers w v2 news) (hok2 : ∀ x ∈ news, x.ok) (S : Sit) (hS : S.ok) :
    Calls Try.prog 4 #[v1, v2, .agg #[.int .i64 S.m, .int .i64 S.q.g, .int .i64 S.q.p, .int .i64 S.q.w, .int .i64 S.q.t, .int .u64 (S.s : Nat)]] w fun e w' => e = .returned (.bool true) ∧ Below w.heap.size w w' := by
  have AW := Lib.hid (fun W => awake22_any W)
  have L0 : Hid (Lows w (w.alloc (.cells #[.int .i64 S.m, .int .i64 S.q.g, .int .i64 S.q.p, .int .i64 S.q.w, .int .i64 S.q.t, .int .u64 (S.s : Nat)] 27))) := Lib.hid (Lows.alloc (Lows.self w) _)
  have OS : Hid (Blk (w.alloc (.cells #[.int .i64 S.m, .int .i64 S.q.g, .int .i64 S.q.p, .int .i64 S.q.w, .int .i64 S.q.t, .int .u64 (S.s : Nat)] 27)) w.heap.size 27 [.int .i64 S.m, .int .i64 S.q.g, .int .i64 S.q.p, .int .i64 S.q.w, .int .i64 S.q.t, .int .u64 (S.s : Nat)]) := Lib.hid (Blk.new w #[.int .i64 S.m, .int .i64 S.q.g, .int .i64 S.q.p, .int .i64 S.q.w, .int .i64 S.q.t, .int .u64 (S.s : Nat)] 27)
  have PL : Hid (∀ W, Below w.heap.size w W → Peers W v1 l ∧ Peers W v2 news) := Lib.hid fun W hW => ⟨h1.below hW, h2.below hW⟩
  obtain ⟨A, c, rfl, hc, hn1, hcell⟩ := h1
  obtain ⟨A2, cap2, rfl, hc2, hn2, hcell2⟩ := h2
  have HC := Lib.hid hcell
  clear hcell hcell2 hc hc2 hn1 hn2
  by_cases h20 : 20 < l.length
  · have h20z : (20 : Int) < (l.length : Int) := by omega
    clear PL HC hok1 hok2 hS OS
    go_enter Try.func4, Try.ntmps4
    go_wp2_with fail
    refine (AW.out _).mono ?_; rintro e w1 ⟨rfl, hb1⟩
    go_wp2_with fail
    go_ret
    exact ⟨rfl, low_trans L0.out hb1⟩
  · have h20z : ¬ (20 : Int) < (l.length : Int) := by omega
    by_cases h30 : 20 < news.length
    · have h30z : (20 : Int) < (news.length : Int) := by omega
      clear PL HC hok1 hok2 hS OS
      go_enter Try.func4, Try.ntmps4
      go_wp2_with fail
      refine (AW.out _).mono ?_; rintro e w1 ⟨rfl, hb1⟩
      go_wp2_with fail
      go_ret
      exact ⟨rfl, low_trans L0.out hb1⟩
    · have h30z : ¬ (20 : Int) < (news.length : Int) := by omega
      have KU := Lib.hid (unlike22_any _ l (w.alloc (.cells #[.int .i64 S.m, .int .i64 S.q.g, .int .i64 S.q.p, .int .i64 S.q.w, .int .i64 S.q.t, .int .u64 (S.s : Nat)] 27)) (PL.out _ L0.out).1 (by omega))
      by_cases hu : Unlike l
      · rw [unlikeB_yes hu] at KU
        have hrl := run_length S news l
        have HUR := Lib.hid (run_unlike S news l hu)
        have HCO := Lib.hid (run_count S news l hu)
        have HST : Hid (∀ i, i < l.length → safeR l news i S.q S.s = true → fstN (runR S l news) (l[i]!).e < (runR S l news).length ∧ (runR S l news)[fstN (runR S l news) (l[i]!).e]! = l[i]!) := Lib.hid fun i hi h => safe_stays hu hi h
        have KR : Hid (∀ W, Below w.heap.size w W → Calls Try.prog 12 #[.slice A l.length c, .slice A2 news.length cap2, .agg #[.int .i64 S.m, .int .i64 S.q.g, .int .i64 S.q.p, .int .i64 S.q.w, .int .i64 S.q.t, .int .u64 (S.s : Nat)]] W fun e w' => ∃ u, e = .returned u ∧ Peers w' u (runR S l news) ∧ Below W.heap.size W w') := Lib.hid fun W hW => run_any _ _ l news S W (PL.out W hW).1 (PL.out W hW).2 hok1 hok2 (by omega) hS.2.2
        generalize hRN : runR S l news = RN at HST KR hrl HUR HCO
        clear hRN hu
        go_enter Try.func4, Try.ntmps4
        go_wp2_with fail
        refine KU.out.mono ?_; rintro e9 w1 ⟨rfl, hb1⟩
        have L1 := Lib.hid (low_trans L0.out hb1)
        have OS1 := Lib.hid (OS.out.on hb1)
        have KR1 := Lib.hid (KR.out w1 L1.out)
        have q0 := OS1.out.cell (j := 0) rfl
        have q1 := OS1.out.cell (j := 1) rfl
        have q2 := OS1.out.cell (j := 2) rfl
        have q3 := OS1.out.cell (j := 3) rfl
        have q4 := OS1.out.cell (j := 4) rfl
        have q5 := OS1.out.cell (j := 5) rfl
        clear hb1 KU KR OS
        go_wp2_with fail
        refine KR1.out.mono ?_; rintro e9 W1 ⟨u, rfl, hU, hb2⟩
        have L2 := Lib.hid (low_trans L1.out hb2)
        have OS2 := Lib.hid (OS1.out.on hb2)
        have HU := Lib.hid hU
        obtain ⟨A4, c4, rfl, _, _, hcell4⟩ := hU
        have HC4 := Lib.hid hcell4
        clear hb2 KR1 OS1 L1 hcell4 q0 q1 q2 q3 q4 q5
        go_wp2_with fail
        go_loopw [8] (fun vi wr => ∃ i : Nat, vi = .int .i64 i ∧ i ≤ l.length ∧ Hid (Lows W1 wr)) (fun vi _ => l.length - (intOf vi).toNat)
        case atStart => exact ⟨0, rfl, Nat.zero_le _, Lib.hid (Lows.self _)⟩
        case round =>
          obtain ⟨i, rfl, hi, HL⟩ := hrel
          by_cases hli : i < l.length
          · have hliz : (i : Int) < (l.length : Int) := by omega
            have Lwr : Hid (Below w.heap.size w wr) := Lib.hid (low_trans L2.out HL.out)
            have KS : Hid (∀ W, Below w.heap.size w W → Calls Try.prog 7 #[.slice A l.length c, .slice A2 news.length cap2, .int .i64 i, .agg #[.int .i64 S.m, .int .i64 S.q.g, .int .i64 S.q.p, .int .i64 S.q.w, .int .i64 S.q.t, .int .u64 (S.s : Nat)]] W fun e w' => e = .returned (.bool (safeR l news i S.q S.s)) ∧ Below W.heap.size W w') := Lib.hid fun W hW => safe_any _ _ l news i S W (PL.out W hW).1 (PL.out W hW).2 hok1 hok2 (by omega) hS.2.2 hli
            obtain ⟨bb, o, rfl, hb, hcc⟩ := HC.out (by omega)
            obtain ⟨x, hx⟩ : ∃ x, x = l[i]! := ⟨_, rfl⟩
            have HCW : Hid (∀ W, Below w.heap.size w W → W.cell? ⟨bb, o + i * 10, none⟩ = some (.bool x.e.a.v6) ∧ W.cell? ⟨bb, o + i * 10 + 1, none⟩ = some (.int .u64 x.e.a.hi) ∧ W.cell? ⟨bb, o + i * 10 + 2, none⟩ = some (.int .u64 x.e.a.lo) ∧ W.cell? ⟨bb, o + i * 10 + 3, none⟩ = some (.int .i64 x.e.n) ∧ W.cell? ⟨bb, o + i * 10 + 4, none⟩ = some (.bool x.i) ∧ W.cell? ⟨bb, o + i * 10 + 5, none⟩ = some (.int .i64 x.t) ∧ W.cell? ⟨bb, o + i * 10 + 6, none⟩ = some (.int .i64 x.c.p) ∧ W.cell? ⟨bb, o + i * 10 + 7, none⟩ = some (.int .i64 x.c.a) ∧ W.cell? ⟨bb, o + i * 10 + 8, none⟩ = some (.int .i64 x.g) ∧ W.cell? ⟨bb, o + i * 10 + 9, none⟩ = some (.int .i64 x.k)) := Lib.hid fun W hW => ⟨peer_at hW hb hcc hli (j := 0) (by rw [← hx]; rfl), peer_at hW hb hcc hli (j := 1) (by rw [← hx]; rfl), peer_at hW hb hcc hli (j := 2) (by rw [← hx]; rfl), peer_at hW hb hcc hli (j := 3) (by rw [← hx]; rfl), peer_at hW hb hcc hli (j := 4) (by rw [← hx]; rfl), peer_at hW hb hcc hli (j := 5) (by rw [← hx]; rfl), peer_at hW hb hcc hli (j := 6) (by rw [← hx]; rfl), peer_at hW hb hcc hli (j := 7) (by rw [← hx]; rfl), peer_at hW hb hcc hli (j := 8) (by rw [← hx]; rfl), peer_at hW hb hcc hli (j := 9) (by rw [← hx]; rfl)⟩
            obtain ⟨c0, c1, c2, c3, c4, c5, c6, c7, c8, c9⟩ := HCW.out _ Lwr.out
            obtain ⟨b, hbb⟩ : ∃ b, b = safeR l news i S.q S.s := ⟨_, rfl⟩
            have HSI := Lib.hid (HST.out i hli)
            rw [← hx, ← hbb] at HSI
            rw [← hbb] at KS
            have KI := Lib.hid (rindex_any _ RN x.e wr (HU.out.below HL.out) (by omega))
            have HIX : Hid (ixE RN x.e = if fstN RN x.e < RN.length then (fstN RN x.e : Int) else -1) := Lib.hid rfl
            generalize ixE RN x.e = ix at KI HIX
            generalize fstN RN x.e = m at HIX HSI
            clear hcc hb hx hbb
            go_wp2_with fail
            refine KI.out.mono ?_; rintro e9 w3 ⟨rfl, hb3⟩
            have HL3 := Lib.hid (low_trans HL.out hb3)
            have L3 := Lib.hid (low_trans Lwr.out hb3)
            have OS3 := Lib.hid (OS2.out.on HL3.out)
            have KS3 : Hid (∀ W, Lows w3 W → Calls Try.prog 7 #[.slice (some ⟨bb, o, none⟩) l.length c, .slice A2 news.length cap2, .int .i64 i, .agg #[.int .i64 S.m, .int .i64 S.q.g, .int .i64 S.q.p, .int .i64 S.q.w, .int .i64 S.q.t, .int .u64 (S.s : Nat)]] W fun e w' => e = .returned (.bool b) ∧ Lows w3 w') := Lib.hid fun W hW => (KS.out W (low_trans L3.out hW)).mono fun e w' hh => ⟨hh.1, low_trans hW hh.2⟩
            have hne : Nonempty (Cls (Lows w3)) := ⟨⟨_, Lows.self _⟩⟩
            clear hb3 KI KS c0 c1 c2 c3 c4 c5 c6 c7 c8 c9
            have s0 : ∀ nq : Cls (Lows w3), nq.w.cell? ⟨w.heap.size, 0, none⟩ = some (.int .i64 S.m) := fun nq => (OS3.out.on nq.h).cell (j := 0) rfl
            have s1 : ∀ nq : Cls (Lows w3), nq.w.cell? ⟨w.heap.size, 1, none⟩ = some (.int .i64 S.q.g) := fun nq => (OS3.out.on nq.h).cell (j := 1) rfl
            have s2 : ∀ nq : Cls (Lows w3), nq.w.cell? ⟨w.heap.size, 2, none⟩ = some (.int .i64 S.q.p) := fun nq => (OS3.out.on nq.h).cell (j := 2) rfl
            have s3 : ∀ nq : Cls (Lows w3), nq.w.cell? ⟨w.heap.size, 3, none⟩ = some (.int .i64 S.q.w) := fun nq => (OS3.out.on nq.h).cell (j := 3) rfl
            have s4 : ∀ nq : Cls (Lows w3), nq.w.cell? ⟨w.heap.size, 4, none⟩ = some (.int .i64 S.q.t) := fun nq => (OS3.out.on nq.h).cell (j := 4) rfl
            have s5 : ∀ nq : Cls (Lows w3), nq.w.cell? ⟨w.heap.size, 5, none⟩ = some (.int .u64 (S.s : Nat)) := fun nq => (OS3.out.on nq.h).cell (j := 5) rfl
            cases b with
            | false =>
              clear HSI HIX
              go_wp2_with fail
              refine Cls.region (Lows w3) (by kernel_rfl) (by kernel_rfl) (low_drewN (Below.refl _ _) 1) ?_
              (try dsimp only [List.append])
              repeat (go_big_quiet_step (first | fail | (with_reducible exact Cls.call ((KS3).out _ (Cls.h _)))))
              refine wpQuiet_nil ?_
              intro n9
              have hk9 := n9.h
              generalize n9.w = w9 at hk9 ⊢
              clear hne n9 s0 s1 s2 s3 s4 s5 KS3
              have HL9 : Hid (Lows W1 w9) := Lib.hid (low_trans HL3.out hk9)
              go_wp2_with fail
              go_roundw
              case rel => exact ⟨i + 1, by go_num, by omega, HL9⟩
              case measure => simp [intOf]; omega
            | true =>
              obtain ⟨hat, hxx⟩ := HSI.out rfl
              have hixe := HIX.out
              rw [if_pos hat] at hixe
              subst hixe
              have hm0 : ¬ (m : Int) < 0 := by omega
              have hmz : (m : Int) < (RN.length : Int) := by omega
              have hm1 : decide ((m : Int) < 0) = false := decide_eq_false hm0
              obtain ⟨b4, o4, rfl, hb4', hcc4'⟩ := HC4.out (by omega)
              obtain ⟨hb4, hcc4⟩ : b4 < w3.heap.size ∧ ∀ i (h : i < RN.length) j u, (encP RN[i])[j]? = some u → w3.cell? ⟨b4, o4 + i * 10 + j, none⟩ = some u := ⟨Nat.lt_of_lt_of_le hb4' HL3.out.size, fun i h j u hu => (HL3.out.cell (p := ⟨b4, o4 + i * 10 + j, none⟩) hb4').trans (hcc4' i h j u hu)⟩
              have f0 : ∀ nq : Cls (Lows w3), nq.w.cell? ⟨bb, o + i * 10, none⟩ = some (.bool x.e.a.v6) := fun nq => (HCW.out _ (low_trans L3.out nq.h)).1
              have f1 : ∀ nq : Cls (Lows w3), nq.w.cell? ⟨bb, o + i * 10 + 1, none⟩ = some (.int .u64 x.e.a.hi) := fun nq => (HCW.out _ (low_trans L3.out nq.h)).2.1
              have f2 : ∀ nq : Cls (Lows w3), nq.w.cell? ⟨bb, o + i * 10 + 2, none⟩ = some (.int .u64 x.e.a.lo) := fun nq => (HCW.out _ (low_trans L3.out nq.h)).2.2.1
              have f3 : ∀ nq : Cls (Lows w3), nq.w.cell? ⟨bb, o + i * 10 + 3, none⟩ = some (.int .i64 x.e.n) := fun nq => (HCW.out _ (low_trans L3.out nq.h)).2.2.2.1
              have f4 : ∀ nq : Cls (Lows w3), nq.w.cell? ⟨bb, o + i * 10 + 4, none⟩ = some (.bool x.i) := fun nq => (HCW.out _ (low_trans L3.out nq.h)).2.2.2.2.1
              have f5 : ∀ nq : Cls (Lows w3), nq.w.cell? ⟨bb, o + i * 10 + 5, none⟩ = some (.int .i64 x.t) := fun nq => (HCW.out _ (low_trans L3.out nq.h)).2.2.2.2.2.1
              have f6 : ∀ nq : Cls (Lows w3), nq.w.cell? ⟨bb, o + i * 10 + 6, none⟩ = some (.int .i64 x.c.p) := fun nq => (HCW.out _ (low_trans L3.out nq.h)).2.2.2.2.2.2.1
              have f7 : ∀ nq : Cls (Lows w3), nq.w.cell? ⟨bb, o + i * 10 + 7, none⟩ = some (.int .i64 x.c.a) := fun nq => (HCW.out _ (low_trans L3.out nq.h)).2.2.2.2.2.2.2.1
              have f8 : ∀ nq : Cls (Lows w3), nq.w.cell? ⟨bb, o + i * 10 + 8, none⟩ = some (.int .i64 x.g) := fun nq => (HCW.out _ (low_trans L3.out nq.h)).2.2.2.2.2.2.2.2.1
              have f9 : ∀ nq : Cls (Lows w3), nq.w.cell? ⟨bb, o + i * 10 + 9, none⟩ = some (.int .i64 x.k) := fun nq => (HCW.out _ (low_trans L3.out nq.h)).2.2.2.2.2.2.2.2.2
              have g0 : ∀ nq : Cls (Lows w3), nq.w.cell? ⟨b4, o4 + m * 10, none⟩ = some (.bool x.e.a.v6) := fun nq => peer_at nq.h hb4 hcc4 hat (j := 0) (by rw [hxx]; rfl)
              have g1 : ∀ nq : Cls (Lows w3), nq.w.cell? ⟨b4, o4 + m * 10 + 1, none⟩ = some (.int .u64 x.e.a.hi) := fun nq => peer_at nq.h hb4 hcc4 hat (j := 1) (by rw [hxx]; rfl)
              have g2 : ∀ nq : Cls (Lows w3), nq.w.cell? ⟨b4, o4 + m * 10 + 2, none⟩ = some (.int .u64 x.e.a.lo) := fun nq => peer_at nq.h hb4 hcc4 hat (j := 2) (by rw [hxx]; rfl)
              have g3 : ∀ nq : Cls (Lows w3), nq.w.cell? ⟨b4, o4 + m * 10 + 3, none⟩ = some (.int .i64 x.e.n) := fun nq => peer_at nq.h hb4 hcc4 hat (j := 3) (by rw [hxx]; rfl)
              have g4 : ∀ nq : Cls (Lows w3), nq.w.cell? ⟨b4, o4 + m * 10 + 4, none⟩ = some (.bool x.i) := fun nq => peer_at nq.h hb4 hcc4 hat (j := 4) (by rw [hxx]; rfl)
              have g5 : ∀ nq : Cls (Lows w3), nq.w.cell? ⟨b4, o4 + m * 10 + 5, none⟩ = some (.int .i64 x.t) := fun nq => peer_at nq.h hb4 hcc4 hat (j := 5) (by rw [hxx]; rfl)
              have g6 : ∀ nq : Cls (Lows w3), nq.w.cell? ⟨b4, o4 + m * 10 + 6, none⟩ = some (.int .i64 x.c.p) := fun nq => peer_at nq.h hb4 hcc4 hat (j := 6) (by rw [hxx]; rfl)
              have g7 : ∀ nq : Cls (Lows w3), nq.w.cell? ⟨b4, o4 + m * 10 + 7, none⟩ = some (.int .i64 x.c.a) := fun nq => peer_at nq.h hb4 hcc4 hat (j := 7) (by rw [hxx]; rfl)
              have g8 : ∀ nq : Cls (Lows w3), nq.w.cell? ⟨b4, o4 + m * 10 + 8, none⟩ = some (.int .i64 x.g) := fun nq => peer_at nq.h hb4 hcc4 hat (j := 8) (by rw [hxx]; rfl)
              have g9 : ∀ nq : Cls (Lows w3), nq.w.cell? ⟨b4, o4 + m * 10 + 9, none⟩ = some (.int .i64 x.k) := fun nq => peer_at nq.h hb4 hcc4 hat (j := 9) (by rw [hxx]; rfl)
              have NQ : ∀ W, (binOp .neq 41 (.agg #[.bool x.e.a.v6, .int .u64 x.e.a.hi, .int .u64 x.e.a.lo, .int .i64 x.e.n, .bool x.i, .int .i64 x.t, .int .i64 x.c.p, .int .i64 x.c.a, .int .i64 x.g, .int .i64 x.k]) (.agg #[.bool x.e.a.v6, .int .u64 x.e.a.hi, .int .u64 x.e.a.lo, .int .i64 x.e.n, .bool x.i, .int .i64 x.t, .int .i64 x.c.p, .int .i64 x.c.a, .int .i64 x.g, .int .i64 x.k])).run Try.prog W = .ok (.bool false) W := fun W => neqPeer_self x W
              clear hcc4 hcc4' hb4 hb4' HSI HIX hxx
              go_wp2_with fail
              refine Cls.region (Lows w3) (by kernel_rfl) (by kernel_rfl) (low_drewN (Below.refl _ _) 1) ?_
              (try dsimp only [List.append])
              repeat (go_big_quiet_step (first | fail | (with_reducible exact Cls.call ((KS3).out _ (Cls.h _)))))
              refine wpQuiet_nil ?_
              intro n9
              have hk9 := n9.h
              generalize n9.w = w9 at hk9 ⊢
              clear hne n9 s0 s1 s2 s3 s4 s5 f0 f1 f2 f3 f4 f5 f6 f7 f8 f9 g0 g1 g2 g3 g4 g5 g6 g7 g8 g9 KS3 NQ
              have HL9 : Hid (Lows W1 w9) := Lib.hid (low_trans HL3.out hk9)
              go_wp2_with fail
              go_roundw
              case rel => exact ⟨i + 1, by go_num, by omega, HL9⟩
              case measure => simp [intOf]; omega
          · have hliz : ¬ (i : Int) < (l.length : Int) := by omega
            have Lwr : Hid (Below w.heap.size w wr) := Lib.hid (low_trans L2.out HL.out)
            have OSr := Lib.hid (OS2.out.on HL.out)
            obtain ⟨n1, hn1⟩ : ∃ n1, n1 = (cameR RN).length := ⟨_, rfl⟩
            obtain ⟨n2, hn2⟩ : ∃ n2, n2 = (cameR l).length := ⟨_, rfl⟩
            obtain ⟨MM, hM⟩ : ∃ MM, MM = max S.m (n2 : Int) := ⟨_, rfl⟩
            have hM' := hM.symm
            have hle : (n1 : Int) ≤ MM := by rw [hM, hn1, hn2]; exact HCO.out
            have hled : decide ((n1 : Int) ≤ MM) = true := decide_eq_true hle
            have IN : ∀ w', Lows wr w' → S25 w S wr w' := fun w' h => ⟨(OSr.out.on h).cell (j := 0) rfl, h⟩
            have JD : Hid (∀ X, S25 w S wr X → S25 w S wr X.drew) := Lib.hid fun X h => IN _ (low_drewN h.2 1)
            have PR : Hid (∀ W, Lows wr W → Peers W (.slice A4 RN.length c4) RN) := Lib.hid fun W hW => (HU.out.below HL.out).below hW
            have KC1 : Hid (∀ X, S25 w S wr X → Calls Try.prog 15 #[.slice A4 RN.length c4] X fun e w' => ∃ A9 k9, e = .returned (.slice A9 n1 k9) ∧ S25 w S wr w') := Lib.hid fun X h => (rcame_any _ RN X (PR.out X h.2) (by omega)).mono fun e w' ⟨u, he, hu, hb⟩ => by
              obtain ⟨A9, k9, rfl, _, _, _⟩ := hu
              exact ⟨A9, k9, by rw [hn1]; exact he, IN _ (low_trans h.2 hb)⟩
            have KC2 : Hid (∀ X, S25 w S wr X → Calls Try.prog 15 #[.slice A l.length c] X fun e w' => ∃ A9 k9, e = .returned (.slice A9 n2 k9) ∧ S25 w S wr w') := Lib.hid fun X h => (rcame_any _ l X (PL.out X (low_trans Lwr.out h.2)).1 (by omega)).mono fun e w' ⟨u, he, hu, hb⟩ => by
              obtain ⟨A9, k9, rfl, _, _, _⟩ := hu
              exact ⟨A9, k9, by rw [hn2]; exact he, IN _ (low_trans h.2 hb)⟩
            have KUN : Hid (∀ X, S25 w S wr X → Calls Try.prog 13 #[.slice A4 RN.length c4] X fun e w' => e = .returned (.bool true) ∧ S25 w S wr w') := Lib.hid fun X h => (unlike22_any _ RN X (PR.out X h.2) (by omega)).mono fun e w' ⟨he, hb⟩ => ⟨by rw [unlikeB_yes HUR.out] at he; exact he, IN _ (low_trans h.2 hb)⟩
            have KAW : Hid (∀ X, S25 w S wr X → Calls Try.prog 6 #[] X fun e w' => e = .returned (.bool true) ∧ S25 w S wr w') := Lib.hid fun X h => (AW.out X).mono fun e w' ⟨he, hb⟩ => ⟨he, IN _ (low_trans h.2 hb)⟩
            have hk0 : S25 w S wr wr := IN _ (Lows.self _)
            obtain ⟨t0, t1⟩ := id hk0
            clear IN PR hn1 hn2 hM hle HCO HUR HST HC HC4 HU PL OSr OS2 AW L2 HL
            go_upto_region 10 with fail
            go_region_held3 (fun w' => w'.cell? ⟨w.heap.size, 0, none⟩ = some (.int .i64 S.m) ∧ Lows wr w')
              (first | (with_reducible assumption) | (with_reducible exact JD.out _ (by with_reducible assumption)))
              (first
                | (go_at_call 15; first
                  | ((with_reducible refine (KC1.out _ (by with_reducible assumption)).mono ?_); rintro e w9 ⟨A9, k9, rfl, hkw⟩)
                  | ((with_reducible refine (KC2.out _ (by with_reducible assumption)).mono ?_); rintro e w9 ⟨A9, k9, rfl, hkw⟩))
                | (go_at_call 13; (with_reducible refine (KUN.out _ (by with_reducible assumption)).mono ?_); rintro e w9 ⟨rfl, hkw⟩)
                | (go_at_call 6; (with_reducible refine (KAW.out _ (by with_reducible assumption)).mono ?_); rintro e w9 ⟨rfl, hkw⟩))
            all_goals
              have hkf := ‹S25 w S wr _›
              go_wp2_with fail
              go_ret
              exact ⟨rfl, low_trans Lwr.out hkf.2⟩
      · rw [unlikeB_no hu] at KU
        clear PL HC hok1 hok2 hS OS hu
        go_enter Try.func4, Try.ntmps4
        go_wp2_with fail
        refine KU.out.mono ?_; rintro e w9 ⟨rfl, hb9⟩
        have L9 := Lib.hid (low_trans L0.out hb9)
        clear hb9
        go_wp2_with fail
        refine (AW.out _).mono ?_; rintro e w1 ⟨rfl, hb1⟩
        go_wp2_with fail
        go_ret
        exact ⟨rfl, low_trans L9.out hb1⟩
namespace siegeStays
theorem contract (H : Type) (enc : TypeId × Value → H) (W : World) (base : Nat) (args : Array Value) (ds gs : List (DataW H)) (before : List MemPlace)
    (hval0 : ∀ (j : Nat) t v, Try.f4.params[j]? = some t → args[j]? = some v → Value.okWide Try.prog W .any base t v)
    (hW : DataW.Whole enc Try.prog Try.f4.params.toList Rows.siegeStaysSpec.vars false W args.toList ds gs before) (hSh : W.ShapedOpen Try.prog) :
    Calls Try.prog 4 args W fun e W' => ∃ v, e = .returned v ∧ Rows.siegeStaysSpec.post enc Try.prog Try.f4 false true false false W args v W' := by
  have hval : ∀ (j : Nat) t v, Try.f4.params[j]? = some t → args[j]? = some v → Value.okWide Try.prog W .any base t v := hval0
  have hW' := hW
  obtain ⟨p, q, hA0, hV, _, _, _⟩ := hW
  have hA : DataW.TrodAll enc Try.prog W 0 (fun _ => true) true Try.f4.params.toList args.toList ds p := hA0
  rw [Try.params4] at hA hval
  obtain ⟨v0, vs0, d0, ds0, p0, q0, hargs, rfl, rfl, h0, r0⟩ := trodAll_cons hA
  obtain ⟨v1, vs1, d1, ds1, p1, q1, rfl, rfl, rfl, h1, r1⟩ := trodAll_cons r0
  obtain ⟨v2, vs2, d2, ds2, p2, q2, rfl, rfl, rfl, h2, r2⟩ := trodAll_cons r1
  obtain ⟨rfl, rfl, rfl⟩ := trodAll_nil r2
  obtain rfl : args = #[v0, v1, v2] := by cases args; simp_all
  obtain ⟨rfl, rfl⟩ := trodVars_none hV
  obtain ⟨l0, t0, n0, s0⟩ := open_peers (hval 0 22 v0 rfl rfl) h0
  obtain ⟨l1, t1, n1, s1⟩ := open_peers (hval 1 22 v1 rfl rfl) h1
  obtain ⟨a2, z2, rfl⟩ := open_site (hval 2 27 v2 rfl rfl) h2
  clear hA0 hval0
  refine (siegeStays_walk W v0 l0 t0 s0 v1 l1 t1 s1 a2 z2).mono fun e W' ⟨he, hg⟩ => ?_
  subst he
  exact ⟨_, rfl, post_law laidOut (by kernel_rfl) (by kernel_rfl) Try.underlying4 rfl hW' rfl rfl rfl hg⟩
set_option maxRecDepth 100000 in
theorem lifted (os : Os) (started : os.Started) (H : Type) (enc : TypeId × Value → H) (F : Stop.Interp) :
    ReturnsInHanded {} Try.checked os 4 .any ((OpenSpec.ofChange Rows.siegeStaysSpec).preRow enc Try.prog Try.f4 Rows.siegeStaysRow.domain false Rows.siegeStaysRow.laid) (((OpenSpec.ofChange Rows.siegeStaysSpec).at F).post enc Try.prog Try.f4 false true false false) := by
  refine returnsInHanded_of_row (C := Try.checked) (s := OpenSpec.ofChange Rows.siegeStaysSpec) own started (by kernel_rfl) Try.func4
    (witness_laid (enc := enc) (C := Try.checked) (s := OpenSpec.ofChange Rows.siegeStaysSpec) (laid := Rows.siegeStaysRow.laid) #[.slice none 0 0, .slice none 0 0, .agg #[.int .i64 0, .int .i64 0, .int .i64 0, .int .i64 0, .int .i64 0, .int .u64 0]] (World.shaped_of_ZipB (by kernel_rfl) (by kernel_rfl)) (by kernel_rfl)
      (OpenSpec.preRow_of_cond 8 (x := ([.nil, .nil, .agg [.lit (.int .i64 0), .agg [.lit (.int .i64 0), .lit (.int .i64 0), .lit (.int .i64 0), .lit (.int .i64 0)], .lit (.int .u64 0)]], [], [])) (by kernel_rfl) (by kernel_rfl) (fun k hk => by cases hk) (by kernel_rfl)
        (by rw [MakeChecks.laidMetH_plain _ _ _ (by kernel_rfl)]; exact laidMet_laidAll _ (by kernel_rfl) (by kernel_rfl)))) ?_
  intro W base args ds gs before hval hW _ hcond _ _ hsh _
  exact contract H enc W base args ds gs before hval hW hsh
theorem over : Rows.siegeStaysRow.holds Try.pinned (OpenSpec.ofChange Rows.siegeStaysSpec) :=
  OpenClaim.holds_of_cond 4 Try.f4 rfl rfl rfl rfl rfl rfl rfl ⟨rfl, rfl, rfl, rfl, rfl⟩ rfl rfl rfl rfl rfl (by kernel_rfl) Try.func4 (by kernel_rfl)
    (of_decide_eq_true (by kernel_rfl)) (by unfold Func.isWrapper; first | (rw [if_pos (by decide +kernel)]; kernel_rfl) | (rw [if_neg (by decide +kernel)]; exact ⟨rfl, rfl⟩))
    (fun os started H enc _ F => by rw [OpenClaim.pre_eq_preRow]; exact lifted os started H enc F)
/-- ████ THE STATEMENT ████ -/
theorem proved : Rows.SiegeStaysSaid := over
end siegeStays
end Go.Proofs.Ythmcggbmeabpmaa
