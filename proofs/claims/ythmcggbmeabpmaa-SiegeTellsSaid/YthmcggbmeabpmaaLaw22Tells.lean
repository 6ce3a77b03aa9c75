/- The first statement of layer 22, proved: what becomes of any peers, whoever comes, step by step, and who is safe, are as the document has them; for all lists of peers and all sites. -/
import Derived.Test.YthmcggbmeabpmaaLaw22
namespace Go.Proofs.Ythmcggbmeabpmaa
set_option maxRecDepth 100000
open Go.ChangeShapes Go.WideShapes Go.ChangeAt Go.RowKit
open Dec Words V4 V6 Ad Ci En Sat Ha Pe Stb Gr Mi Ra Sh Cw Ev Si Go.Deep
set_option linter.unusedVariables false
set_option linter.unusedSimpArgs false
theorem keep10 {B : Nat} {W0 w9 : World} {v : Value} {l : List Pr} (h : Peers W0 v l ∨ OwnP B w9 v l) (hL : Lows W0 w9) : (∀ o, Peers (w9.alloc o) v l) ∧ (∀ b u0 u1 u2 u3, b < B → W0.heap.size ≤ b → Peers ((((w9.setCell ⟨b, 0, none⟩ u0).setCell ⟨b, 1, none⟩ u1).setCell ⟨b, 2, none⟩ u2).setCell ⟨b, 3, none⟩ u3) v l) := by
  rcases h with h | h
  · exact ⟨fun o => h.below (Lows.alloc hL o), fun b u0 u1 u2 u3 _ hb => h.below (Below.setCell (Below.setCell (Below.setCell (Below.setCell hL hb u0) hb u1) hb u2) hb u3)⟩
  · exact ⟨(keep9 h).1, fun b u0 u1 u2 u3 hb _ => (keep9 h).2 b u0 u1 u2 u3 hb⟩
theorem set4_blk {w : World} {g : Nat} {t : TypeId} {a b c d : Value} (h : Blk w g t [a, b, c, d]) (u0 u1 u2 u3 : Value) : Blk ((((w.setCell ⟨g, 0, none⟩ u0).setCell ⟨g, 1, none⟩ u1).setCell ⟨g, 2, none⟩ u2).setCell ⟨g, 3, none⟩ u3) g t [u0, u1, u2, u3] := (((h.set 0 u0).set 1 u1).set 2 u2).set 3 u3
theorem set4_low {W0 w : World} {g : Nat} (h : Lows W0 w) (hg : W0.heap.size ≤ g) (u0 u1 u2 u3 : Value) : Lows W0 ((((w.setCell ⟨g, 0, none⟩ u0).setCell ⟨g, 1, none⟩ u1).setCell ⟨g, 2, none⟩ u2).setCell ⟨g, 3, none⟩ u3) := Below.setCell (Below.setCell (Below.setCell (Below.setCell h hg u0) hg u1) hg u2) hg u3
abbrev S24 (w : World) (S : Sit) (bb o k : Nat) (p : Pr) (Wb w' : World) : Prop := w'.cell? ⟨w.heap.size, 0, none⟩ = some (.int .i64 S.m) ∧ w'.cell? ⟨w.heap.size, 1, none⟩ = some (.int .i64 S.q.g) ∧ w'.cell? ⟨w.heap.size, 2, none⟩ = some (.int .i64 S.q.p) ∧ w'.cell? ⟨w.heap.size, 3, none⟩ = some (.int .i64 S.q.w) ∧ w'.cell? ⟨w.heap.size, 4, none⟩ = some (.int .i64 S.q.t) ∧ w'.cell? ⟨w.heap.size, 5, none⟩ = some (.int .u64 (S.s : Nat)) ∧ w'.cell? ⟨bb, o + k * 10, none⟩ = some (.bool p.e.a.v6) ∧ w'.cell? ⟨bb, o + k * 10 + 1, none⟩ = some (.int .u64 p.e.a.hi) ∧ w'.cell? ⟨bb, o + k * 10 + 2, none⟩ = some (.int .u64 p.e.a.lo) ∧ w'.cell? ⟨bb, o + k * 10 + 3, none⟩ = some (.int .i64 p.e.n) ∧ w'.cell? ⟨bb, o + k * 10 + 4, none⟩ = some (.bool p.i) ∧ w'.cell? ⟨bb, o + k * 10 + 5, none⟩ = some (.int .i64 p.t) ∧ w'.cell? ⟨bb, o + k * 10 + 6, none⟩ = some (.int .i64 p.c.p) ∧ w'.cell? ⟨bb, o + k * 10 + 7, none⟩ = some (.int .i64 p.c.a) ∧ w'.cell? ⟨bb, o + k * 10 + 8, none⟩ = some (.int .i64 p.g) ∧ w'.cell? ⟨bb, o + k * 10 + 9, none⟩ = some (.int .i64 p.k) ∧ Lows Wb w'
set_option maxHeartbeats 24000000 in
theorem siegeTells_walk (w : World) (v1 : Value) (l : List Pr) (h1 : Peers w v1 l) (hok1 : ∀ x ∈ l, x.ok) (v2 : Value) (news : List Pr) (h2 : Peers w v2 news) (hok2 : ∀ x ∈ news, x.ok) (S : Sit) (hS : S.ok) :
    Calls Try.prog 3 #[v1, v2, .agg #[.int .i64 S.m, .int .i64 S.q.g, .int .i64 S.q.p, .int .i64 S.q.w, .int .i64 S.q.t, .int .u64 (S.s : Nat)]] w fun e w' => e = .returned (.bool true) ∧ Below w.heap.size w w' := by
  have AW := Lib.hid (fun W => awake22_any W)
  have L0 : Hid (Lows w (w.alloc (.cells #[.int .i64 S.m, .int .i64 S.q.g, .int .i64 S.q.p, .int .i64 S.q.w, .int .i64 S.q.t, .int .u64 (S.s : Nat)] 27))) := Lib.hid (Lows.alloc (Lows.self w) _)
  have OS : Hid (Blk (w.alloc (.cells #[.int .i64 S.m, .int .i64 S.q.g, .int .i64 S.q.p, .int .i64 S.q.w, .int .i64 S.q.t, .int .u64 (S.s : Nat)] 27)) w.heap.size 27 [.int .i64 S.m, .int .i64 S.q.g, .int .i64 S.q.p, .int .i64 S.q.w, .int .i64 S.q.t, .int .u64 (S.s : Nat)]) := Lib.hid (Blk.new w #[.int .i64 S.m, .int .i64 S.q.g, .int .i64 S.q.p, .int .i64 S.q.w, .int .i64 S.q.t, .int .u64 (S.s : Nat)] 27)
  have PL : Hid (∀ W, Below w.heap.size w W → Peers W v1 l ∧ Peers W v2 news) := Lib.hid fun W hW => ⟨h1.below hW, h2.below hW⟩
  obtain ⟨A, c, rfl, hc, hn1, hcell1⟩ := h1
  obtain ⟨A2, c2, rfl, hc2, hn2, hcell⟩ := h2
  have HC := Lib.hid hcell
  clear hcell1 hcell hc hc2 hn1 hn2
  by_cases h20 : 20 < l.length
  · have h20z : (20 : Int) < (l.length : Int) := by omega
    clear PL HC hok1 hok2 hS OS
    go_enter Try.func3, Try.ntmps3
    go_wp2_with fail
    refine (AW.out _).mono ?_; rintro e w1 ⟨rfl, hb1⟩
    go_wp2_with fail
    go_ret
    exact ⟨rfl, low_trans L0.out hb1⟩
  · have h20z : ¬ (20 : Int) < (l.length : Int) := by omega
    by_cases h30 : 20 < news.length
    · have h30z : (20 : Int) < (news.length : Int) := by omega
      clear PL HC hok1 hok2 hS OS
      go_enter Try.func3, Try.ntmps3
      go_wp2_with fail
      refine (AW.out _).mono ?_; rintro e w1 ⟨rfl, hb1⟩
      go_wp2_with fail
      go_ret
      exact ⟨rfl, low_trans L0.out hb1⟩
    · have h30z : ¬ (20 : Int) < (news.length : Int) := by omega
      go_enter Try.func3, Try.ntmps3
      go_wp2_with fail
      go_loopw [7] (fun vi wr => ∃ i : Nat, vi = .int .i64 i ∧ i ≤ l.length ∧ Hid (Lows (w.alloc (.cells #[.int .i64 S.m, .int .i64 S.q.g, .int .i64 S.q.p, .int .i64 S.q.w, .int .i64 S.q.t, .int .u64 (S.s : Nat)] 27)) wr)) (fun vi _ => l.length - (intOf vi).toNat)
      case atStart => exact ⟨0, rfl, Nat.zero_le _, Lib.hid (Lows.self _)⟩
      case round =>
        obtain ⟨i, rfl, hi, HL⟩ := hrel
        by_cases hli : i < l.length
        · have hliz : (i : Int) < (l.length : Int) := by omega
          have hne : Nonempty (Cls (Lows wr)) := ⟨⟨_, Lows.self _⟩⟩
          have Lwr : Hid (Below w.heap.size w wr) := Lib.hid (low_trans L0.out HL.out)
          have f0 : ∀ nq : Cls (Lows wr), nq.w.cell? ⟨w.heap.size, 0, none⟩ = some (.int .i64 S.m) := fun nq => (OS.out.on (low_trans HL.out nq.h)).cell (j := 0) rfl
          have f1 : ∀ nq : Cls (Lows wr), nq.w.cell? ⟨w.heap.size, 1, none⟩ = some (.int .i64 S.q.g) := fun nq => (OS.out.on (low_trans HL.out nq.h)).cell (j := 1) rfl
          have f2 : ∀ nq : Cls (Lows wr), nq.w.cell? ⟨w.heap.size, 2, none⟩ = some (.int .i64 S.q.p) := fun nq => (OS.out.on (low_trans HL.out nq.h)).cell (j := 2) rfl
          have f3 : ∀ nq : Cls (Lows wr), nq.w.cell? ⟨w.heap.size, 3, none⟩ = some (.int .i64 S.q.w) := fun nq => (OS.out.on (low_trans HL.out nq.h)).cell (j := 3) rfl
          have f4 : ∀ nq : Cls (Lows wr), nq.w.cell? ⟨w.heap.size, 4, none⟩ = some (.int .i64 S.q.t) := fun nq => (OS.out.on (low_trans HL.out nq.h)).cell (j := 4) rfl
          have f5 : ∀ nq : Cls (Lows wr), nq.w.cell? ⟨w.heap.size, 5, none⟩ = some (.int .u64 (S.s : Nat)) := fun nq => (OS.out.on (low_trans HL.out nq.h)).cell (j := 5) rfl
          obtain ⟨b, hb⟩ : ∃ b, b = safeR l news i S.q S.s := ⟨_, rfl⟩
          have KS1 : Hid (∀ W, Lows wr W → Calls Try.prog 7 #[.slice A l.length c, .slice A2 news.length c2, .int .i64 i, .agg #[.int .i64 S.m, .int .i64 S.q.g, .int .i64 S.q.p, .int .i64 S.q.w, .int .i64 S.q.t, .int .u64 (S.s : Nat)]] W fun e w' => e = .returned (.bool b) ∧ Lows wr w') := Lib.hid fun W hW => by
            rw [hb]
            have hp := PL.out W (low_trans Lwr.out hW)
            exact (safe_any _ _ l news i S W hp.1 hp.2 hok1 hok2 (by omega) hS.2.2 hli).mono fun e w' ⟨he, hl⟩ => ⟨he, low_trans hW hl⟩
          have KS2 : Hid (∀ W, Lows wr W → Calls Try.prog 8 #[.slice A l.length c, .slice A2 news.length c2, .int .i64 i, .agg #[.int .i64 S.q.g, .int .i64 S.q.p, .int .i64 S.q.w, .int .i64 S.q.t], .int .u64 (S.s : Nat)] W fun e w' => e = .returned (.bool b) ∧ Lows wr w') := Lib.hid fun W hW => by
            rw [hb]
            have hp := PL.out W (low_trans Lwr.out hW)
            exact (rsafe_any _ _ l news i S.q S.s W hp.1 hp.2 hok1 hok2 (by omega) hS.2.2 hli).mono fun e w' ⟨he, hl⟩ => ⟨he, low_trans hW hl⟩
          have zb : (b != b) = false := by simp
          clear hb
          go_wp2_with fail
          refine Cls.region (Lows wr) (by kernel_rfl) (by kernel_rfl) (low_drewN (Below.refl _ _) 1) ?_
          (try dsimp only [List.append])
          repeat (go_big_quiet_step (first | fail | (with_reducible exact Cls.call ((KS1).out _ (Cls.h _))) | (with_reducible exact Cls.call ((KS2).out _ (Cls.h _)))))
          refine wpQuiet_nil ?_
          intro n9
          have hk9 := n9.h
          generalize n9.w = w9 at hk9 ⊢
          clear hne n9 f0 f1 f2 f3 f4 f5 KS1 KS2
          have HL9 : Hid (Lows (w.alloc (.cells #[.int .i64 S.m, .int .i64 S.q.g, .int .i64 S.q.p, .int .i64 S.q.w, .int .i64 S.q.t, .int .u64 (S.s : Nat)] 27)) w9) := Lib.hid (low_trans HL.out hk9)
          go_wp2_with fail
          go_roundw
          case rel => exact ⟨i + 1, by go_num, by omega, HL9⟩
          case measure => simp [intOf]; omega
        · have hliz : ¬ (i : Int) < (l.length : Int) := by omega
          have L1 := HL
          obtain ⟨W1, hW1⟩ : ∃ W1, W1 = wr := ⟨_, rfl⟩
          rw [← hW1] at L1 ⊢
          clear hW1 HL
          have Lw1 : Hid (Below w.heap.size w W1) := Lib.hid (low_trans L0.out L1.out)
          have OS1 := Lib.hid (OS.out.on L1.out)
          have HOK : Hid (∀ k, (∀ x ∈ runR S l (news.take k), x.ok) ∧ (runR S l (news.take k)).length ≤ 40) := Lib.hid fun k => ⟨run_ok S _ _ hok1 (take_ok hok2 k), by
            have := run_length S (news.take k) l
            rw [List.length_take] at this
            omega⟩
          go_wp2_with fail
          go_loopw [8, 9] (fun vq vk wr => ∃ (k m8 k8 : Nat) (A8 : Option Addr), vq = .slice A8 m8 k8 ∧ vk = .int .i64 k ∧ k ≤ news.length ∧ Hid (Peers wr (.slice A8 m8 k8) (runR S l (news.take k))) ∧ Hid (Lows W1 wr)) (fun _ vk _ => news.length - (intOf vk).toNat)
          case atStart => exact ⟨0, _, _, _, rfl, rfl, Nat.zero_le _, Lib.hid (PL.out _ Lw1.out).1, Lib.hid (Lows.self _)⟩
          case round =>
            obtain ⟨k, m8, k8, A8, rfl, rfl, hk, HQ, HL⟩ := hrel
            by_cases hkn : k < news.length
            · have hknz : (k : Int) < (news.length : Int) := by omega
              have hnx := run_next S l hkn
              have HQO := Lib.hid (HOK.out k).1
              have hql := (HOK.out k).2
              have hll := (HOK.out (k + 1)).2
              obtain ⟨bb, o, rfl, hb, hcc⟩ := HC.out (by omega)
              obtain ⟨p, hx⟩ : ∃ x, x = news[k]! := ⟨_, rfl⟩
              have HCW : Hid (∀ W, Below w.heap.size w W → W.cell? ⟨bb, o + k * 10, none⟩ = some (.bool p.e.a.v6) ∧ W.cell? ⟨bb, o + k * 10 + 1, none⟩ = some (.int .u64 p.e.a.hi) ∧ W.cell? ⟨bb, o + k * 10 + 2, none⟩ = some (.int .u64 p.e.a.lo) ∧ W.cell? ⟨bb, o + k * 10 + 3, none⟩ = some (.int .i64 p.e.n) ∧ W.cell? ⟨bb, o + k * 10 + 4, none⟩ = some (.bool p.i) ∧ W.cell? ⟨bb, o + k * 10 + 5, none⟩ = some (.int .i64 p.t) ∧ W.cell? ⟨bb, o + k * 10 + 6, none⟩ = some (.int .i64 p.c.p) ∧ W.cell? ⟨bb, o + k * 10 + 7, none⟩ = some (.int .i64 p.c.a) ∧ W.cell? ⟨bb, o + k * 10 + 8, none⟩ = some (.int .i64 p.g) ∧ W.cell? ⟨bb, o + k * 10 + 9, none⟩ = some (.int .i64 p.k)) := Lib.hid fun W hW => ⟨peer_at hW hb hcc hkn (j := 0) (by rw [← hx]; rfl), peer_at hW hb hcc hkn (j := 1) (by rw [← hx]; rfl), peer_at hW hb hcc hkn (j := 2) (by rw [← hx]; rfl), peer_at hW hb hcc hkn (j := 3) (by rw [← hx]; rfl), peer_at hW hb hcc hkn (j := 4) (by rw [← hx]; rfl), peer_at hW hb hcc hkn (j := 5) (by rw [← hx]; rfl), peer_at hW hb hcc hkn (j := 6) (by rw [← hx]; rfl), peer_at hW hb hcc hkn (j := 7) (by rw [← hx]; rfl), peer_at hW hb hcc hkn (j := 8) (by rw [← hx]; rfl), peer_at hW hb hcc hkn (j := 9) (by rw [← hx]; rfl)⟩
              rw [← hx] at hnx
              obtain ⟨QL, hQL⟩ : ∃ QL, QL = runR S l (news.take k) := ⟨_, rfl⟩
              rw [← hQL] at HQ HQO hql hnx
              rw [hnx] at hll
              obtain ⟨LL, hLL'⟩ : ∃ LL, LL = arrL QL p S := ⟨_, rfl⟩
              obtain ⟨EE, hEE'⟩ : ∃ EE, EE = arrE QL p S := ⟨_, rfl⟩
              obtain ⟨CC, hCC'⟩ : ∃ CC, CC = arrC QL p S := ⟨_, rfl⟩
              have hLL := hLL'.symm
              have hEE := hEE'.symm
              have hCC := hCC'.symm
              have HNX : Hid (runR S l (news.take (k + 1)) = LL) := Lib.hid (hnx.trans hLL)
              rw [hLL] at hll
              clear hLL' hEE' hCC' hnx hQL hcc hb hx
              have Lwr : Hid (Below w.heap.size w wr) := Lib.hid (low_trans Lw1.out HL.out)
              have OSr := Lib.hid (OS1.out.on HL.out)
              go_upto_region 12 with fail
              go_cut [10, 11, 12] from 46 to 93 (fun s1 s2 s3 wx => ∃ (A6 : Option Addr) (k6 g : Nat), s1 = .slice A6 LL.length k6 ∧ s2 = .pointer (some ⟨g, 0, none⟩) ∧ s3 = .int .i64 CC ∧ wr.heap.size ≤ g ∧ Hid (Blk wx g 34 [.bool EE.a.v6, .int .u64 EE.a.hi, .int .u64 EE.a.lo, .int .i64 EE.n]) ∧ Hid (Peers wx (.slice A6 LL.length k6) LL) ∧ Hid (Lows wr wx))
              case first =>
                have IN : ∀ w', Lows wr w' → S24 w S bb o k p wr w' := fun w' h => ⟨(OSr.out.on h).cell (j := 0) rfl, (OSr.out.on h).cell (j := 1) rfl, (OSr.out.on h).cell (j := 2) rfl, (OSr.out.on h).cell (j := 3) rfl, (OSr.out.on h).cell (j := 4) rfl, (OSr.out.on h).cell (j := 5) rfl, (HCW.out _ (low_trans Lwr.out h)).1, (HCW.out _ (low_trans Lwr.out h)).2.1, (HCW.out _ (low_trans Lwr.out h)).2.2.1, (HCW.out _ (low_trans Lwr.out h)).2.2.2.1, (HCW.out _ (low_trans Lwr.out h)).2.2.2.2.1, (HCW.out _ (low_trans Lwr.out h)).2.2.2.2.2.1, (HCW.out _ (low_trans Lwr.out h)).2.2.2.2.2.2.1, (HCW.out _ (low_trans Lwr.out h)).2.2.2.2.2.2.2.1, (HCW.out _ (low_trans Lwr.out h)).2.2.2.2.2.2.2.2.1, (HCW.out _ (low_trans Lwr.out h)).2.2.2.2.2.2.2.2.2, h⟩
                have JD : Hid (∀ X, S24 w S bb o k p wr X → S24 w S bb o k p wr X.drew) := Lib.hid fun X h => IN _ (low_drewN h.2.2.2.2.2.2.2.2.2.2.2.2.2.2.2.2 1)
                have JA : Hid (∀ X oq, S24 w S bb o k p wr X → S24 w S bb o k p wr (X.alloc oq)) := Lib.hid fun X oq h => IN _ (Lows.alloc h.2.2.2.2.2.2.2.2.2.2.2.2.2.2.2.2 _)
                have JS : Hid (∀ X b j u, wr.heap.size ≤ b → S24 w S bb o k p wr X → S24 w S bb o k p wr (X.setCell ⟨b, j, none⟩ u)) := Lib.hid fun X b j u hb h => IN _ (Below.setCell h.2.2.2.2.2.2.2.2.2.2.2.2.2.2.2.2 hb _)
                have KR : Hid (∀ X, S24 w S bb o k p wr X → Calls Try.prog 9 #[.slice A8 m8 k8, .agg #[.bool p.e.a.v6, .int .u64 p.e.a.hi, .int .u64 p.e.a.lo, .int .i64 p.e.n, .bool p.i, .int .i64 p.t, .int .i64 p.c.p, .int .i64 p.c.a, .int .i64 p.g, .int .i64 p.k], .agg #[.int .i64 S.m, .int .i64 S.q.g, .int .i64 S.q.p, .int .i64 S.q.w, .int .i64 S.q.t, .int .u64 (S.s : Nat)]] X fun e w' => ∃ A9 k9, e = .returned (.tuple #[.slice A9 LL.length k9, .agg #[.bool EE.a.v6, .int .u64 EE.a.hi, .int .u64 EE.a.lo, .int .i64 EE.n], .int .i64 CC]) ∧ (Peers wr (.slice A9 LL.length k9) LL ∨ OwnP X.heap.size w' (.slice A9 LL.length k9) LL) ∧ Below X.heap.size X w' ∧ S24 w S bb o k p wr w') := Lib.hid fun X h => by
                  refine (arrive_any (.slice A8 m8 k8) QL p S X (HQ.out.below h.2.2.2.2.2.2.2.2.2.2.2.2.2.2.2.2) HQO.out (by omega) hS.2.2).mono fun e w' ⟨u, he, ho, hb⟩ => ?_
                  rw [hLL, hEE, hCC] at *
                  obtain ⟨A, c, rfl, _, _, _⟩ := ownP_peers ho
                  exact ⟨A, c, he, Or.inr ho, hb, IN _ (low_trans h.2.2.2.2.2.2.2.2.2.2.2.2.2.2.2.2 hb)⟩
                have hk0 : S24 w S bb o k p wr wr := IN _ (Lows.self _)
                obtain ⟨t0, t1, t2, t3, t4, t5, t6, t7, t8, t9, t10, t11, t12, t13, t14, t15, t16⟩ := id hk0
                clear IN
                go_region_held3 (fun w' => w'.cell? ⟨w.heap.size, 0, none⟩ = some (.int .i64 S.m) ∧ w'.cell? ⟨w.heap.size, 1, none⟩ = some (.int .i64 S.q.g) ∧ w'.cell? ⟨w.heap.size, 2, none⟩ = some (.int .i64 S.q.p) ∧ w'.cell? ⟨w.heap.size, 3, none⟩ = some (.int .i64 S.q.w) ∧ w'.cell? ⟨w.heap.size, 4, none⟩ = some (.int .i64 S.q.t) ∧ w'.cell? ⟨w.heap.size, 5, none⟩ = some (.int .u64 (S.s : Nat)) ∧ w'.cell? ⟨bb, o + k * 10, none⟩ = some (.bool p.e.a.v6) ∧ w'.cell? ⟨bb, o + k * 10 + 1, none⟩ = some (.int .u64 p.e.a.hi) ∧ w'.cell? ⟨bb, o + k * 10 + 2, none⟩ = some (.int .u64 p.e.a.lo) ∧ w'.cell? ⟨bb, o + k * 10 + 3, none⟩ = some (.int .i64 p.e.n) ∧ w'.cell? ⟨bb, o + k * 10 + 4, none⟩ = some (.bool p.i) ∧ w'.cell? ⟨bb, o + k * 10 + 5, none⟩ = some (.int .i64 p.t) ∧ w'.cell? ⟨bb, o + k * 10 + 6, none⟩ = some (.int .i64 p.c.p) ∧ w'.cell? ⟨bb, o + k * 10 + 7, none⟩ = some (.int .i64 p.c.a) ∧ w'.cell? ⟨bb, o + k * 10 + 8, none⟩ = some (.int .i64 p.g) ∧ w'.cell? ⟨bb, o + k * 10 + 9, none⟩ = some (.int .i64 p.k) ∧ Lows wr w')
                  (first | (with_reducible assumption) | (repeat (first | (with_reducible assumption) | (with_reducible refine JD.out _ ?_) | (with_reducible refine JA.out _ _ ?_) | (with_reducible refine JS.out _ _ _ _ (by first | omega | (simp; omega)) ?_))))
                  (first
                    | (go_at_call 9; (with_reducible refine (KR.out _ (by with_reducible assumption)).mono ?_); rintro e w9 ⟨A2, k2, rfl, hK, hb9, hkw⟩; have HK9 := Lib.hid (keep10 hK hkw.2.2.2.2.2.2.2.2.2.2.2.2.2.2.2.2); clear hK; obtain ⟨hc9, hf9⟩ := old hb9; have hz9 := hb9.size; (try simp [go_sem, Nat.add_one_le_iff] at hz9)))
                · go_wp2_with fail
                  go_meet
                  exact ⟨A2, k2, w9.heap.size, rfl, rfl, rfl, (hkw.2.2.2.2.2.2.2.2.2.2.2.2.2.2.2.2).size, Lib.hid (Blk.new w9 #[.bool EE.a.v6, .int .u64 EE.a.hi, .int .u64 EE.a.lo, .int .i64 EE.n] 34), Lib.hid (HK9.out.1 _), Lib.hid (Lows.alloc hkw.2.2.2.2.2.2.2.2.2.2.2.2.2.2.2.2 _)⟩
                · go_wp2_with fail
                  go_meet
                  have ho : Blk w9 wr.heap.size 34 [.bool false, .int .u64 0, .int .u64 0, .int .i64 0] := by first | exact Blk.on (show Blk (wr.alloc (.cells #[.bool false, .int .u64 0, .int .u64 0, .int .i64 0] 34)).drew wr.heap.size 34 [.bool false, .int .u64 0, .int .u64 0, .int .i64 0] from Blk.new wr #[.bool false, .int .u64 0, .int .u64 0, .int .i64 0] 34) hb9 | exact Blk.on (Blk.new wr #[.bool false, .int .u64 0, .int .u64 0, .int .i64 0] 34) hb9
                  exact ⟨A2, k2, wr.heap.size, rfl, rfl, rfl, Nat.le_refl _, Lib.hid (set4_blk ho _ _ _ _), Lib.hid (HK9.out.2 _ _ _ _ _ (by first | (simp; done) | (simp; omega)) (Nat.le_refl _)), Lib.hid (set4_low hkw.2.2.2.2.2.2.2.2.2.2.2.2.2.2.2.2 (Nat.le_refl _) _ _ _ _)⟩
              case rest =>
                obtain ⟨A6, k6, g6, rfl, rfl, rfl, hg6, OE6, HP6, HL6⟩ := hcut
                obtain ⟨W6, hW6⟩ : ∃ W6, W6 = wc := ⟨_, rfl⟩
                rw [← hW6] at OE6 HP6 HL6 ⊢
                clear hW6
                have Lwr := Lib.hid (low_trans Lwr.out HL6.out)
                have OSr := Lib.hid (OSr.out.on HL6.out)
                have HQ := Lib.hid (HQ.out.below HL6.out)
                have HLb := Lib.hid (low_trans HL.out HL6.out)
                go_upto_region 13 with fail
                go_cut [13, 14, 15] from 46 to 93 (fun s1 s2 s3 wx => ∃ (A6 : Option Addr) (k6 g : Nat), s1 = .slice A6 LL.length k6 ∧ s2 = .pointer (some ⟨g, 0, none⟩) ∧ s3 = .int .i64 CC ∧ W6.heap.size ≤ g ∧ Hid (Blk wx g 34 [.bool EE.a.v6, .int .u64 EE.a.hi, .int .u64 EE.a.lo, .int .i64 EE.n]) ∧ Hid (Peers wx (.slice A6 LL.length k6) LL) ∧ Hid (Lows W6 wx))
                case first =>
                  have IN : ∀ w', Lows W6 w' → S24 w S bb o k p W6 w' := fun w' h => ⟨(OSr.out.on h).cell (j := 0) rfl, (OSr.out.on h).cell (j := 1) rfl, (OSr.out.on h).cell (j := 2) rfl, (OSr.out.on h).cell (j := 3) rfl, (OSr.out.on h).cell (j := 4) rfl, (OSr.out.on h).cell (j := 5) rfl, (HCW.out _ (low_trans Lwr.out h)).1, (HCW.out _ (low_trans Lwr.out h)).2.1, (HCW.out _ (low_trans Lwr.out h)).2.2.1, (HCW.out _ (low_trans Lwr.out h)).2.2.2.1, (HCW.out _ (low_trans Lwr.out h)).2.2.2.2.1, (HCW.out _ (low_trans Lwr.out h)).2.2.2.2.2.1, (HCW.out _ (low_trans Lwr.out h)).2.2.2.2.2.2.1, (HCW.out _ (low_trans Lwr.out h)).2.2.2.2.2.2.2.1, (HCW.out _ (low_trans Lwr.out h)).2.2.2.2.2.2.2.2.1, (HCW.out _ (low_trans Lwr.out h)).2.2.2.2.2.2.2.2.2, h⟩
                  have JD : Hid (∀ X, S24 w S bb o k p W6 X → S24 w S bb o k p W6 X.drew) := Lib.hid fun X h => IN _ (low_drewN h.2.2.2.2.2.2.2.2.2.2.2.2.2.2.2.2 1)
                  have JA : Hid (∀ X oq, S24 w S bb o k p W6 X → S24 w S bb o k p W6 (X.alloc oq)) := Lib.hid fun X oq h => IN _ (Lows.alloc h.2.2.2.2.2.2.2.2.2.2.2.2.2.2.2.2 _)
                  have JS : Hid (∀ X b j u, W6.heap.size ≤ b → S24 w S bb o k p W6 X → S24 w S bb o k p W6 (X.setCell ⟨b, j, none⟩ u)) := Lib.hid fun X b j u hb h => IN _ (Below.setCell h.2.2.2.2.2.2.2.2.2.2.2.2.2.2.2.2 hb _)
                  have KR : Hid (∀ X, S24 w S bb o k p W6 X → Calls Try.prog 10 #[.slice A8 m8 k8, .agg #[.bool p.e.a.v6, .int .u64 p.e.a.hi, .int .u64 p.e.a.lo, .int .i64 p.e.n, .bool p.i, .int .i64 p.t, .int .i64 p.c.p, .int .i64 p.c.a, .int .i64 p.g, .int .i64 p.k], .int .i64 S.m, .agg #[.int .i64 S.q.g, .int .i64 S.q.p, .int .i64 S.q.w, .int .i64 S.q.t], .int .u64 (S.s : Nat)] X fun e w' => ∃ A9 k9, e = .returned (.tuple #[.slice A9 LL.length k9, .agg #[.bool EE.a.v6, .int .u64 EE.a.hi, .int .u64 EE.a.lo, .int .i64 EE.n], .int .i64 CC]) ∧ (Peers W6 (.slice A9 LL.length k9) LL ∨ OwnP X.heap.size w' (.slice A9 LL.length k9) LL) ∧ Below X.heap.size X w' ∧ S24 w S bb o k p W6 w') := Lib.hid fun X h => by
                    refine (rarrive_any (.slice A8 m8 k8) QL p S X (HQ.out.below h.2.2.2.2.2.2.2.2.2.2.2.2.2.2.2.2) HQO.out (by omega) hS.2.2).mono fun e w' ⟨u, he, ho, hb⟩ => ?_
                    rw [hLL, hEE, hCC] at *
                    rcases ho with ⟨rfl, hq⟩ | ho
                    · have hP := HQ.out
                      rw [← hq] at hP
                      have hP2 := hP
                      obtain ⟨A, c, hsl, _, _, _⟩ := hP2
                      rw [hsl] at he hP
                      exact ⟨A, c, he, Or.inl hP, hb, IN _ (low_trans h.2.2.2.2.2.2.2.2.2.2.2.2.2.2.2.2 hb)⟩
                    · obtain ⟨A, c, rfl, _, _, _⟩ := ownP_peers ho
                      exact ⟨A, c, he, Or.inr ho, hb, IN _ (low_trans h.2.2.2.2.2.2.2.2.2.2.2.2.2.2.2.2 hb)⟩
                  have hk0 : S24 w S bb o k p W6 W6 := IN _ (Lows.self _)
                  obtain ⟨t0, t1, t2, t3, t4, t5, t6, t7, t8, t9, t10, t11, t12, t13, t14, t15, t16⟩ := id hk0
                  clear IN
                  go_region_held3 (fun w' => w'.cell? ⟨w.heap.size, 0, none⟩ = some (.int .i64 S.m) ∧ w'.cell? ⟨w.heap.size, 1, none⟩ = some (.int .i64 S.q.g) ∧ w'.cell? ⟨w.heap.size, 2, none⟩ = some (.int .i64 S.q.p) ∧ w'.cell? ⟨w.heap.size, 3, none⟩ = some (.int .i64 S.q.w) ∧ w'.cell? ⟨w.heap.size, 4, none⟩ = some (.int .i64 S.q.t) ∧ w'.cell? ⟨w.heap.size, 5, none⟩ = some (.int .u64 (S.s : Nat)) ∧ w'.cell? ⟨bb, o + k * 10, none⟩ = some (.bool p.e.a.v6) ∧ w'.cell? ⟨bb, o + k * 10 + 1, none⟩ = some (.int .u64 p.e.a.hi) ∧ w'.cell? ⟨bb, o + k * 10 + 2, none⟩ = some (.int .u64 p.e.a.lo) ∧ w'.cell? ⟨bb, o + k * 10 + 3, none⟩ = some (.int .i64 p.e.n) ∧ w'.cell? ⟨bb, o + k * 10 + 4, none⟩ = some (.bool p.i) ∧ w'.cell? ⟨bb, o + k * 10 + 5, none⟩ = some (.int .i64 p.t) ∧ w'.cell? ⟨bb, o + k * 10 + 6, none⟩ = some (.int .i64 p.c.p) ∧ w'.cell? ⟨bb, o + k * 10 + 7, none⟩ = some (.int .i64 p.c.a) ∧ w'.cell? ⟨bb, o + k * 10 + 8, none⟩ = some (.int .i64 p.g) ∧ w'.cell? ⟨bb, o + k * 10 + 9, none⟩ = some (.int .i64 p.k) ∧ Lows W6 w')
                    (first | (with_reducible assumption) | (repeat (first | (with_reducible assumption) | (with_reducible refine JD.out _ ?_) | (with_reducible refine JA.out _ _ ?_) | (with_reducible refine JS.out _ _ _ _ (by first | omega | (simp; omega)) ?_))))
                    (first
                      | (go_at_call 10; (with_reducible refine (KR.out _ (by with_reducible assumption)).mono ?_); rintro e w9 ⟨A2, k2, rfl, hK, hb9, hkw⟩; have HK9 := Lib.hid (keep10 hK hkw.2.2.2.2.2.2.2.2.2.2.2.2.2.2.2.2); clear hK; obtain ⟨hc9, hf9⟩ := old hb9; have hz9 := hb9.size; (try simp [go_sem, Nat.add_one_le_iff] at hz9)))
                  · go_wp2_with fail
                    go_meet
                    exact ⟨A2, k2, w9.heap.size, rfl, rfl, rfl, (hkw.2.2.2.2.2.2.2.2.2.2.2.2.2.2.2.2).size, Lib.hid (Blk.new w9 #[.bool EE.a.v6, .int .u64 EE.a.hi, .int .u64 EE.a.lo, .int .i64 EE.n] 34), Lib.hid (HK9.out.1 _), Lib.hid (Lows.alloc hkw.2.2.2.2.2.2.2.2.2.2.2.2.2.2.2.2 _)⟩
                  · go_wp2_with fail
                    go_meet
                    have ho : Blk w9 W6.heap.size 34 [.bool false, .int .u64 0, .int .u64 0, .int .i64 0] := by first | exact Blk.on (show Blk (W6.alloc (.cells #[.bool false, .int .u64 0, .int .u64 0, .int .i64 0] 34)).drew W6.heap.size 34 [.bool false, .int .u64 0, .int .u64 0, .int .i64 0] from Blk.new W6 #[.bool false, .int .u64 0, .int .u64 0, .int .i64 0] 34) hb9 | exact Blk.on (Blk.new W6 #[.bool false, .int .u64 0, .int .u64 0, .int .i64 0] 34) hb9
                    exact ⟨A2, k2, W6.heap.size, rfl, rfl, rfl, Nat.le_refl _, Lib.hid (set4_blk ho _ _ _ _), Lib.hid (HK9.out.2 _ _ _ _ _ (by first | (simp; done) | (simp; omega)) (Nat.le_refl _)), Lib.hid (set4_low hkw.2.2.2.2.2.2.2.2.2.2.2.2.2.2.2.2 (Nat.le_refl _) _ _ _ _)⟩
                case rest =>
                  obtain ⟨A7, k7, g7, rfl, rfl, rfl, hg7, OE7, HP7, HL7⟩ := hcut
                  obtain ⟨W7, hW7⟩ : ∃ W7, W7 = wc := ⟨_, rfl⟩
                  rw [← hW7] at OE7 HP7 HL7 ⊢
                  clear hW7
                  have KB := Lib.hid (samePeers_any _ _ LL W7 (HP6.out.below HL7.out) HP7.out (by omega))
                  have NQ : ∀ W, (binOp .neq 34 (.agg #[.bool EE.a.v6, .int .u64 EE.a.hi, .int .u64 EE.a.lo, .int .i64 EE.n]) (.agg #[.bool EE.a.v6, .int .u64 EE.a.hi, .int .u64 EE.a.lo, .int .i64 EE.n])).run Try.prog W = .ok (.bool false) W := fun W => by rw [neqEnd, (sameE_iff _ _).2 rfl]; rfl
                  have zc : (CC != CC) = false := by simp
                  have OE6' := Lib.hid (OE6.out.on HL7.out)
                  have HLc := Lib.hid (low_trans HLb.out HL7.out)
                  clear OE6 HP6 HL6 HL7 HQ HQO hql HCW OSr Lwr HLb hLL hEE hCC
                  go_wp2_with fail
                  refine KB.out.mono ?_; rintro e9 w8 ⟨rfl, hb8⟩
                  have ho6 := OE6'.out.on hb8
                  have ho7 := OE7.out.on hb8
                  have e0 := ho6.cell (j := 0) rfl
                  have d0 := ho7.cell (j := 0) rfl
                  have e1 := ho6.cell (j := 1) rfl
                  have d1 := ho7.cell (j := 1) rfl
                  have e2 := ho6.cell (j := 2) rfl
                  have d2 := ho7.cell (j := 2) rfl
                  have e3 := ho6.cell (j := 3) rfl
                  have d3 := ho7.cell (j := 3) rfl
                  have HP8 := Lib.hid (HP7.out.below hb8)
                  have HLd := Lib.hid (low_trans HLc.out hb8)
                  clear hb8 KB ho6 ho7 OE6' OE7 HP7 HLc
                  go_wp2_with fail
                  go_roundw
                  case rel => exact ⟨k + 1, _, _, _, rfl, by go_num, by omega, Lib.hid (by rw [HNX.out]; exact HP8.out), HLd⟩
                  case measure => simp [intOf]; omega
            · have hknz : ¬ (k : Int) < (news.length : Int) := by omega
              have hE : runR S l (news.take k) = runR S l news := by rw [List.take_of_length_le (by omega)]
              have hQ := HQ.out
              rw [hE] at hQ
              have hrl := (HOK.out k).2
              rw [hE] at hrl
              have HQ2 := Lib.hid hQ
              have Lwr : Hid (Below w.heap.size w wr) := Lib.hid (low_trans Lw1.out HL.out)
              have OSr := Lib.hid (OS1.out.on HL.out)
              have hp := PL.out wr Lwr.out
              have KU := Lib.hid (run_any _ _ l news S wr hp.1 hp.2 hok1 hok2 (by omega) hS.2.2)
              generalize runR S l news = RN at HQ2 KU hrl
              have q0 := OSr.out.cell (j := 0) rfl
              have q1 := OSr.out.cell (j := 1) rfl
              have q2 := OSr.out.cell (j := 2) rfl
              have q3 := OSr.out.cell (j := 3) rfl
              have q4 := OSr.out.cell (j := 4) rfl
              have q5 := OSr.out.cell (j := 5) rfl
              clear hE hQ HQ hp PL HC
              go_wp2_with fail
              refine KU.out.mono ?_; rintro e9 w2 ⟨u, rfl, hU, hb2⟩
              have KB := Lib.hid (samePeers_any _ _ RN w2 hU (HQ2.out.below hb2) (by omega))
              have L2 := Lib.hid (low_trans Lwr.out hb2)
              clear hU hb2 KU
              go_wp2_with fail
              refine KB.out.mono ?_; rintro e9 w3 ⟨rfl, hb3⟩
              have L3 := Lib.hid (low_trans L2.out hb3)
              clear hb3 KB
              go_wp2_with fail
              refine (AW.out _).mono ?_; rintro e9 w4 ⟨rfl, hb4⟩
              go_wp2_with fail
              go_ret
              exact ⟨rfl, low_trans L3.out hb4⟩
namespace siegeTells
theorem contract (H : Type) (enc : TypeId × Value → H) (W : World) (base : Nat) (args : Array Value) (ds gs : List (DataW H)) (before : List MemPlace)
    (hval0 : ∀ (j : Nat) t v, Try.f3.params[j]? = some t → args[j]? = some v → Value.okWide Try.prog W .any base t v)
    (hW : DataW.Whole enc Try.prog Try.f3.params.toList Rows.siegeTellsSpec.vars false W args.toList ds gs before) (hSh : W.ShapedOpen Try.prog) :
    Calls Try.prog 3 args W fun e W' => ∃ v, e = .returned v ∧ Rows.siegeTellsSpec.post enc Try.prog Try.f3 false true false false W args v W' := by
  have hval : ∀ (j : Nat) t v, Try.f3.params[j]? = some t → args[j]? = some v → Value.okWide Try.prog W .any base t v := hval0
  have hW' := hW
  obtain ⟨p, q, hA0, hV, _, _, _⟩ := hW
  have hA : DataW.TrodAll enc Try.prog W 0 (fun _ => true) true Try.f3.params.toList args.toList ds p := hA0
  rw [Try.params3] at hA hval
  obtain ⟨v0, vs0, d0, ds0, p0, q0, hargs, rfl, rfl, h0, r0⟩ := trodAll_cons hA
  obtain ⟨v1, vs1, d1, ds1, p1, q1, rfl, rfl, rfl, h1, r1⟩ := trodAll_cons r0
  obtain ⟨v2, vs2, d2, ds2, p2, q2, rfl, rfl, rfl, h2, r2⟩ := trodAll_cons r1
  obtain ⟨rfl, rfl, rfl⟩ := trodAll_nil r2
  obtain rfl : args = #[v0, v1, v2] := by cases args; simp_all
  obtain ⟨rfl, rfl⟩ := trodVars_none hV
  obtain ⟨l0, t0, n0, s0⟩ := open_peers (hval 0 22 v0 rfl rfl) h0
  obtain ⟨l1, t1, n1, s1⟩ := open_peers (hval 1 22 v1 rfl rfl) h1
  obtain ⟨a2, z2, rfl⟩ := open_site (hval 2 27 v2 rfl rfl) h2
  clear hA0 hval0
  refine (siegeTells_walk W v0 l0 t0 s0 v1 l1 t1 s1 a2 z2).mono fun e W' ⟨he, hg⟩ => ?_
  subst he
  exact ⟨_, rfl, post_law laidOut (by kernel_rfl) (by kernel_rfl) Try.underlying4 rfl hW' rfl rfl rfl hg⟩
set_option maxRecDepth 100000 in
theorem lifted (os : Os) (started : os.Started) (H : Type) (enc : TypeId × Value → H) (F : Stop.Interp) :
    ReturnsInHanded {} Try.checked os 3 .any ((OpenSpec.ofChange Rows.siegeTellsSpec).preRow enc Try.prog Try.f3 Rows.siegeTellsRow.domain false Rows.siegeTellsRow.laid) (((OpenSpec.ofChange Rows.siegeTellsSpec).at F).post enc Try.prog Try.f3 false true false false) := by
  refine returnsInHanded_of_row (C := Try.checked) (s := OpenSpec.ofChange Rows.siegeTellsSpec) own started (by kernel_rfl) Try.func3
    (witness_laid (enc := enc) (C := Try.checked) (s := OpenSpec.ofChange Rows.siegeTellsSpec) (laid := Rows.siegeTellsRow.laid) #[.slice none 0 0, .slice none 0 0, .agg #[.int .i64 0, .int .i64 0, .int .i64 0, .int .i64 0, .int .i64 0, .int .u64 0]] (World.shaped_of_ZipB (by kernel_rfl) (by kernel_rfl)) (by kernel_rfl)
      (OpenSpec.preRow_of_cond 8 (x := ([.nil, .nil, .agg [.lit (.int .i64 0), .agg [.lit (.int .i64 0), .lit (.int .i64 0), .lit (.int .i64 0), .lit (.int .i64 0)], .lit (.int .u64 0)]], [], [])) (by kernel_rfl) (by kernel_rfl) (fun k hk => by cases hk) (by kernel_rfl)
        (by rw [MakeChecks.laidMetH_plain _ _ _ (by kernel_rfl)]; exact laidMet_laidAll _ (by kernel_rfl) (by kernel_rfl)))) ?_
  intro W base args ds gs before hval hW _ hcond _ _ hsh _
  exact contract H enc W base args ds gs before hval hW hsh
theorem over : Rows.siegeTellsRow.holds Try.pinned (OpenSpec.ofChange Rows.siegeTellsSpec) :=
  OpenClaim.holds_of_cond 3 Try.f3 rfl rfl rfl rfl rfl rfl rfl ⟨rfl, rfl, rfl, rfl, rfl⟩ rfl rfl rfl rfl rfl (by kernel_rfl) Try.func3 (by kernel_rfl)
    (of_decide_eq_true (by kernel_rfl)) (by unfold Func.isWrapper; first | (rw [if_pos (by decide +kernel)]; kernel_rfl) | (rw [if_neg (by decide +kernel)]; exact ⟨rfl, rfl⟩))
    (fun os started H enc _ F => by rw [OpenClaim.pre_eq_preRow]; exact lifted os started H enc F)
/-- ████ THE STATEMENT ████ -/
theorem proved : Rows.SiegeTellsSaid := over
end siegeTells
end Go.Proofs.Ythmcggbmeabpmaa
