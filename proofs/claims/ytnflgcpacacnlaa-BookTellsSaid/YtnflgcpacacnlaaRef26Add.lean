/- The document's answers of layer 26: Add. -/
import Derived.Test.YtnflgcpacacnlaaRef26
import Derived.Deep.RegionHeld3
import Derived.Deep.RegionLaw
namespace Go.Proofs.Ytnflgcpacacnlaa.Bo
set_option maxRecDepth 100000
open Go.ChangeShapes Go.WideShapes Go.ChangeAt Go.RowKit
open Ad Ci En Sat Bk Et Go.Deep
set_option linter.unusedVariables false
set_option maxHeartbeats 16000000 in
theorem raddL_any (v : Value) (l : List Ey) (y : Ey) (most : Int) (w : World) (h : Books w v l) (hok : ∀ x ∈ l, x.ok) (hy : y.ok) (hl : l.length ≤ 800000) :
    Calls Try.prog 8 #[v, .agg #[.bool y.e.a.v6, .int .u64 y.e.a.hi, .int .u64 y.e.a.lo, .int .i64 y.e.n, .int .i64 y.st, .int .i64 y.f, .int .i64 y.nx], .int .i64 most] w fun e w' => ∃ u, e = .returned (.tuple #[u, .int .i64 (codeR l y most)]) ∧ Books w' u (addR l y most) ∧ Below w.heap.size w w' := by
  have LL : Hid (Below w.heap.size w (w.alloc (.cells #[.bool y.e.a.v6, .int .u64 y.e.a.hi, .int .u64 y.e.a.lo, .int .i64 y.e.n, .int .i64 y.st, .int .i64 y.f, .int .i64 y.nx] 29))) := Lib.hid ((Below.refl _ _).alloc (Nat.le_refl _) _)
  have OB := Lib.hid (Blk.new w #[.bool y.e.a.v6, .int .u64 y.e.a.hi, .int .u64 y.e.a.lo, .int .i64 y.e.n, .int .i64 y.st, .int .i64 y.f, .int .i64 y.nx] 29)
  have K1 := Lib.hid (rrightY_any y hy (w.alloc (.cells #[.bool y.e.a.v6, .int .u64 y.e.a.hi, .int .u64 y.e.a.lo, .int .i64 y.e.n, .int .i64 y.st, .int .i64 y.f, .int .i64 y.nx] 29)))
  have KF : Hid (∀ W, Below w.heap.size w W → Calls Try.prog 12 #[v, .agg #[.bool y.e.a.v6, .int .u64 y.e.a.hi, .int .u64 y.e.a.lo, .int .i64 y.e.n]] W fun e w' => e = .returned (.int .i64 (findR l y.e)) ∧ Below W.heap.size W w') := Lib.hid fun W hW => rfindY_any v l y.e W (h.below hW) (by omega)
  have PW : Hid (∀ W, Below w.heap.size w W → Books W v l) := Lib.hid fun W hW => h.below hW
  obtain ⟨A, c, rfl, hc, hnil, hcell⟩ := h
  cases hr : rightY y with
  | false =>
    have E := Lib.hid (add_wrong (l := l) most hr)
    rw [hr] at K1
    clear hr hok hcell hnil
    go_enter Try.func8, Try.ntmps8
    go_wp2_with fail
    refine K1.out.mono ?_; rintro e9 w1 ⟨rfl, hb1⟩
    have OB1 := Lib.hid (OB.out.on hb1)
    have L1 := Lib.hid (low_trans LL.out hb1)
    clear hb1
    go_wp2_with fail
    exact bodyPost_ret (v := .tuple #[.slice none 0 0, .int .i64 1]) (by simp [results, Try.results8, go_sem]) rfl ⟨_, by rw [E.out.1], by rw [E.out.2]; exact Recs.nil _ _ _, L1.out⟩
  | true =>
    rw [hr] at K1
    rcases posY_is (isE y.e) l with ⟨hlt, e⟩ | ⟨hlt, e⟩
    · have E := Lib.hid (add_twice (l := l) most hr (by unfold findR; rw [e]; omega))
      unfold findR at KF
      rw [e] at KF
      clear e hlt hr hok hcell hnil
      generalize l.findIdx (isE y.e) = k at *
      have hm1 : (0 : Int) ≤ (k : Int) := by omega
      go_enter Try.func8, Try.ntmps8
      go_wp2_with fail
      refine K1.out.mono ?_; rintro e9 w1 ⟨rfl, hb1⟩
      have OB1 := Lib.hid (OB.out.on hb1)
      have L1 := Lib.hid (low_trans LL.out hb1)
      clear hb1
      have b0 := OB1.out.cell (j := 0) rfl
      have b1 := OB1.out.cell (j := 1) rfl
      have b2 := OB1.out.cell (j := 2) rfl
      have b3 := OB1.out.cell (j := 3) rfl
      have KX := Lib.hid (KF.out w1 L1.out)
      go_wp2_with fail
      refine KX.out.mono ?_; rintro e9 w2 ⟨rfl, hb2⟩
      have OB2 := Lib.hid (OB1.out.on hb2)
      have L2 := Lib.hid (low_trans L1.out hb2)
      clear hb2 KX b0 b1 b2 b3
      go_wp2_with fail
      exact bodyPost_ret (v := .tuple #[.slice none 0 0, .int .i64 7]) (by simp [results, Try.results8, go_sem]) rfl ⟨_, by rw [E.out.1], by rw [E.out.2]; exact Recs.nil _ _ _, L2.out⟩
    · have hfn : ¬ 0 ≤ findR l y.e := by unfold findR; rw [e]; omega
      have hfe : findR l y.e = -1 := e
      rw [hfe] at KF
      by_cases h3 : most ≤ (l.length : Int)
      · have E := Lib.hid (add_full hr hfn h3)
        clear hfn hfe e hlt hr hok hcell hnil
        go_enter Try.func8, Try.ntmps8
        go_wp2_with fail
        refine K1.out.mono ?_; rintro e9 w1 ⟨rfl, hb1⟩
        have OB1 := Lib.hid (OB.out.on hb1)
        have L1 := Lib.hid (low_trans LL.out hb1)
        clear hb1
        have b0 := OB1.out.cell (j := 0) rfl
        have b1 := OB1.out.cell (j := 1) rfl
        have b2 := OB1.out.cell (j := 2) rfl
        have b3 := OB1.out.cell (j := 3) rfl
        have KX := Lib.hid (KF.out w1 L1.out)
        go_wp2_with fail
        refine KX.out.mono ?_; rintro e9 w2 ⟨rfl, hb2⟩
        have OB2 := Lib.hid (OB1.out.on hb2)
        have L2 := Lib.hid (low_trans L1.out hb2)
        clear hb2 KX b0 b1 b2 b3
        go_wp2_with fail
        exact bodyPost_ret (v := .tuple #[.slice none 0 0, .int .i64 5]) (by simp [results, Try.results8, go_sem]) rfl ⟨_, by rw [E.out.1], by rw [E.out.2]; exact Recs.nil _ _ _, L2.out⟩
      · have E := Lib.hid (add_done hr hfn h3)
        have HC := Lib.hid hcell
        have HNIL := Lib.hid hnil
        have HOK := Lib.hid hok
        have HYE := Lib.hid hy.he
        have HI0 : Hid (insR l y = l.take (placeR l y.e) ++ y :: l.drop (placeR l y.e)) := Lib.hid rfl
        clear hfn hfe e hlt hr hok hcell hnil
        go_enter Try.func8, Try.ntmps8
        go_wp2_with fail
        refine K1.out.mono ?_; rintro e9 w1 ⟨rfl, hb1⟩
        have OB1 := Lib.hid (OB.out.on hb1)
        have L1 := Lib.hid (low_trans LL.out hb1)
        clear hb1
        have b0 := OB1.out.cell (j := 0) rfl
        have b1 := OB1.out.cell (j := 1) rfl
        have b2 := OB1.out.cell (j := 2) rfl
        have b3 := OB1.out.cell (j := 3) rfl
        have KX := Lib.hid (KF.out w1 L1.out)
        go_wp2_with fail
        refine KX.out.mono ?_; rintro e9 w2 ⟨rfl, hb2⟩
        have OB2 := Lib.hid (OB1.out.on hb2)
        have L2 := Lib.hid (low_trans L1.out hb2)
        clear hb2 KX b0 b1 b2 b3
        clear KF
        go_wp2_with fail
        go_loopw [8] (fun vi wr => ∃ k : Nat, vi = .int .i64 k ∧ k ≤ l.length ∧ Hid (∀ i, i < l.length → i < k → isP y.e l[i]! = false) ∧ Hid (Lows w2 wr)) (fun vi _ => l.length - (intOf vi).toNat)
        case atStart => exact ⟨0, rfl, Nat.zero_le _, Lib.hid (fun _ _ h => absurd h (Nat.not_lt_zero _)), Lib.hid (Lows.self _)⟩
        case round =>
          obtain ⟨k, rfl, hk, HM, HS⟩ := hrel
          have HL : Hid (Below w.heap.size w wr) := Lib.hid (low_trans L2.out HS.out)
          have HOB := Lib.hid (OB2.out.on HS.out)
          have hne : Nonempty (Cls (Lows wr)) := ⟨⟨_, Lows.self _⟩⟩
          have hi1 : (k : Int) ≤ (l.length : Int) := by omega
          have hi2 : (k : Int) ≤ (c : Int) := by omega
          have hi9 : (0 : Int) ≤ (k : Int) := by omega
          by_cases hlt : k < l.length
          · have hltz : (k : Int) < (l.length : Int) := by omega
            have hd : decide (k < l.length) = true := decide_eq_true hlt
            obtain ⟨bb, o, rfl, hb, hcc⟩ := HC.out (by omega)
            obtain ⟨x, hx⟩ : ∃ x, x = l[k]! := ⟨_, rfl⟩
            have hxo : x.ok := by rw [hx, getElem!_pos l k hlt]; exact HOK.out _ (List.getElem_mem _)
            have f0 : ∀ nq : Cls (Lows wr), nq.w.cell? ⟨bb, o + k * 7, none⟩ = some (.bool x.e.a.v6) := fun nq => by rw [hx]; exact entry_at (lowT HL.out nq.h) hb hcc hlt (j := 0) rfl
            have f1 : ∀ nq : Cls (Lows wr), nq.w.cell? ⟨bb, o + k * 7 + 1, none⟩ = some (.int .u64 x.e.a.hi) := fun nq => by rw [hx]; exact entry_at (lowT HL.out nq.h) hb hcc hlt (j := 1) rfl
            have f2 : ∀ nq : Cls (Lows wr), nq.w.cell? ⟨bb, o + k * 7 + 2, none⟩ = some (.int .u64 x.e.a.lo) := fun nq => by rw [hx]; exact entry_at (lowT HL.out nq.h) hb hcc hlt (j := 2) rfl
            have f3 : ∀ nq : Cls (Lows wr), nq.w.cell? ⟨bb, o + k * 7 + 3, none⟩ = some (.int .i64 x.e.n) := fun nq => by rw [hx]; exact entry_at (lowT HL.out nq.h) hb hcc hlt (j := 3) rfl
            have g : ∀ nq : Cls (Lows wr), Blk nq.w w.heap.size 29 [.bool y.e.a.v6, .int .u64 y.e.a.hi, .int .u64 y.e.a.lo, .int .i64 y.e.n, .int .i64 y.st, .int .i64 y.f, .int .i64 y.nx] := fun nq => HOB.out.on nq.h
            have g0 : ∀ nq : Cls (Lows wr), nq.w.cell? ⟨w.heap.size, 0, none⟩ = some (.bool y.e.a.v6) := fun nq => (g nq).cell (j := 0) rfl
            have g1 : ∀ nq : Cls (Lows wr), nq.w.cell? ⟨w.heap.size, 1, none⟩ = some (.int .u64 y.e.a.hi) := fun nq => (g nq).cell (j := 1) rfl
            have g2 : ∀ nq : Cls (Lows wr), nq.w.cell? ⟨w.heap.size, 2, none⟩ = some (.int .u64 y.e.a.lo) := fun nq => (g nq).cell (j := 2) rfl
            have g3 : ∀ nq : Cls (Lows wr), nq.w.cell? ⟨w.heap.size, 3, none⟩ = some (.int .i64 y.e.n) := fun nq => (g nq).cell (j := 3) rfl
            have KCM := Lib.hid (fun W => rcompareE_any x.e y.e W hxo.he HYE.out)
            have HX := Lib.hid hx
            have HP : Hid (isP y.e x = decide (0 < cmpE x.e y.e)) := Lib.hid rfl
            clear hcc hb hx hxo g
            obtain ⟨r, hr⟩ : ∃ r, r = cmpE x.e y.e := ⟨_, rfl⟩
            rw [← hr] at KCM HP
            clear hr
            by_cases hc0 : r ≤ 0
            · have hcd : decide (r ≤ 0) = true := decide_eq_true hc0
              have HM2 : Hid (∀ i, i < l.length → i < k + 1 → isP y.e l[i]! = false) := Lib.hid fun i h hi => by
                rcases Nat.lt_succ_iff_lt_or_eq.1 hi with h2 | rfl
                · exact HM.out i h h2
                · rw [← HX.out, HP.out]; exact decide_eq_false (by omega)
              go_wp2_with fail
              refine Cls.region (Lows wr) (by kernel_rfl) (by kernel_rfl) (low_drewN (Below.refl _ _) 1) ?_
              (try dsimp only [List.append])
              repeat (go_big_quiet_step (first | fail | (with_reducible exact Cls.call ((lows_call KCM).out _ (Cls.h _)))))
              refine wpQuiet_nil ?_
              intro n9
              have hk9 := n9.h
              generalize n9.w = w9 at hk9 ⊢
              clear hne n9 f0 f1 f2 f3 g0 g1 g2 g3
              go_wp2_with fail
              go_roundw
              case rel => exact ⟨k + 1, by go_num, by omega, HM2, Lib.hid (low_trans HS.out hk9)⟩
              case measure => simp [intOf]; omega
            · have hcd : decide (r ≤ 0) = false := decide_eq_false hc0
              have hpl : placeR l y.e = k := (posY_hit hlt HM.out (by rw [← HX.out, HP.out]; exact decide_eq_true (by omega))).2
              have HINS := Lib.hid HI0.out
              rw [hpl] at HINS
              clear hpl
              go_wp2_with fail
              refine Cls.region (Lows wr) (by kernel_rfl) (by kernel_rfl) (low_drewN (Below.refl _ _) 1) ?_
              (try dsimp only [List.append])
              repeat (go_big_quiet_step (first | fail | (with_reducible exact Cls.call ((lows_call KCM).out _ (Cls.h _)))))
              refine wpQuiet_nil ?_
              intro n9
              have hk9 := n9.h
              generalize n9.w = w9 at hk9 ⊢
              clear hne n9 f0 f1 f2 f3 g0 g1 g2 g3
              have OB5 := Lib.hid (HOB.out.on hk9)
              have L5 := Lib.hid (low_trans HL.out hk9)
              obtain ⟨w5, hw5⟩ : ∃ w5, w5 = w9 := ⟨_, rfl⟩
              subst hw5
              clear hk9 HOB HL
              have hi7 : ¬ c = k := by omega
              clear HC HNIL HOK HYE HI0 KCM HX HP HM HS hd hcd hc0
              have HA1 : Hid (∀ W g, OwnY w5.heap.size W (.slice (some ⟨g, 0, none⟩) 0 0) [] → Lows w5 W → ∃ v1 w1, (Builtin.append_ #[22, 22] 22 #[.slice (some ⟨g, 0, none⟩) 0 0, .slice (some ⟨bb, o, none⟩) k c]).run Try.prog W = .ok v1 w1 ∧ (OwnY w5.heap.size w1 v1 (l.take k) ∧ Lows w5 w1 ∧ ∀ kk vs, kk ≠ g → Blk W kk 29 vs → Blk w1 kk 29 vs)) := Lib.hid fun W g ho hW => by
                obtain ⟨v1, w1, h1, h2, h3, h4⟩ := append_ys ho ((PW.out _ (low_trans L5.out hW)).part (i := k) (by omega) : Books W (.slice (some ⟨bb, o, none⟩) k c) (l.take k)) (by simp <;> omega) hW.size
                refine ⟨v1, w1, h1, by simpa using h2, hW.trans h3, fun kk vs hkk hb => (h4 kk hb.lt (by simp [Value.ownBlock]; exact hkk)).trans hb⟩
              have HA2 : Hid (∀ W u g, OwnY w5.heap.size W u (l.take k) → Blk W g 29 [.bool y.e.a.v6, .int .u64 y.e.a.hi, .int .u64 y.e.a.lo, .int .i64 y.e.n, .int .i64 y.st, .int .i64 y.f, .int .i64 y.nx] → Lows w5 W → ∃ v1 w1, (Builtin.append_ #[22, 22] 22 #[u, .slice (some ⟨g, 0, none⟩) 1 1]).run Try.prog W = .ok v1 w1 ∧ (OwnY w5.heap.size w1 v1 (l.take k ++ [y]) ∧ Lows w5 w1)) := Lib.hid fun W u g ho hb hW => by
                have hP : Books W (.slice (some ⟨g, 0, none⟩) 1 1) [y] := Blk.reads (m := 1) encY_len7 hb (by rfl) rfl (Nat.le_refl _)
                obtain ⟨v1, w1, h1, h2, h3⟩ := append_entries ho hP (by simp <;> omega) hW.size
                exact ⟨v1, w1, h1, h2, hW.trans h3⟩
              have HA3 : Hid (∀ W u, OwnY w5.heap.size W u (l.take k ++ [y]) → Lows w5 W → ∃ v1 w1, (Builtin.append_ #[22, 22] 22 #[u, .slice (some ⟨bb, o + k * 7, none⟩) (l.length - k) (c - k)]).run Try.prog W = .ok v1 w1 ∧ (Books w1 v1 (insR l y) ∧ Lows w5 w1)) := Lib.hid fun W u ho hW => by
                obtain ⟨v1, w1, h1, h2, h3⟩ := append_entries ho ((PW.out _ (low_trans L5.out hW)).rest (by omega) : Books W (.slice (some ⟨bb, o + k * 7, none⟩) (l.length - k) (c - k)) (l.drop k)) (by simp <;> omega) hW.size
                exact ⟨v1, w1, h1, by rw [HINS.out]; have := ownY_books h2; simpa using this, hW.trans h3⟩
              have hgw : w.heap.size < w5.heap.size := OB5.out.lt
              have hgx : ¬ w.heap.size = w5.heap.size := by omega
              have hgy : ¬ w.heap.size = w5.heap.size + 1 := by omega
              have p0 := OB5.out.cell (j := 0) rfl
              have p1 := OB5.out.cell (j := 1) rfl
              have p2 := OB5.out.cell (j := 2) rfl
              have p3 := OB5.out.cell (j := 3) rfl
              have p4 := OB5.out.cell (j := 4) rfl
              have p5 := OB5.out.cell (j := 5) rfl
              have p6 := OB5.out.cell (j := 6) rfl
              clear PW
              go_upto_region 10 with fail
              go_region_law (first
                | (refine step_append_ex rfl (.tmp 39) (.tmp 42) _ _ rfl rfl _ _ (by first | rfl | simp [Act.eval]) (by first | rfl | simp [Act.eval]) (HA1.out _ _ (by repeat (first | (with_reducible exact ownY_nil_at _ _ (by first | rfl | (simp; done)) (by first | exact Nat.le_refl _ | (simp; done) | (simp; omega))) | (with_reducible refine ownY_drew ?_) | (with_reducible refine ownY_alloc ?_ _))) (by repeat (first | (with_reducible exact Lows.self _) | (with_reducible assumption) | (with_reducible refine Lows.drew ?_) | (with_reducible refine Lows.alloc ?_ _)))) ?_; rintro v1 w6 ⟨ho1, hl1, hk1⟩
                   have OBa := OB5.out.on hl1
                   have hga : w.heap.size < w6.heap.size := OBa.lt
                   have hgb : ¬ w.heap.size = w6.heap.size := by omega
                   have p0 := OBa.cell (j := 0) rfl
                   have p1 := OBa.cell (j := 1) rfl
                   have p2 := OBa.cell (j := 2) rfl
                   have p3 := OBa.cell (j := 3) rfl
                   have p4 := OBa.cell (j := 4) rfl
                   have p5 := OBa.cell (j := 5) rfl
                   have p6 := OBa.cell (j := 6) rfl
                   clear OBa)
                | (refine step_append_ex rfl (.tmp 43) (.tmp 45) _ _ rfl rfl _ _ (by first | rfl | simp [Act.eval]) (by first | rfl | simp [Act.eval]) (HA2.out _ v1 _ (by repeat (first | (with_reducible exact ho1) | (with_reducible refine ownY_drew ?_) | (with_reducible refine ownY_alloc ?_ _))) (by repeat (first | (with_reducible exact blkN_at _ _ (by first | rfl | (simp; done)) rfl) | (with_reducible refine hk1 _ _ (by first | (simp; done) | (simp; omega)) ?_) | (with_reducible refine Blk.drew ?_) | (with_reducible refine Blk.alloc ?_ _))) (by repeat (first | (with_reducible exact Lows.self _) | (with_reducible assumption) | (with_reducible refine Lows.drew ?_) | (with_reducible refine Lows.alloc ?_ _)))) ?_; rintro v2 w7 ⟨ho2, hl2⟩))
              all_goals
                obtain ⟨v3, w8, R3, hb3, hl3⟩ := HA3.out w7 v2 ho2 hl2
                have R4 := Lib.hid R3
                have HB3 := Lib.hid hb3
                have L8 := Lib.hid (low_trans L5.out hl3)
                clear HA1 HA2 HA3 OB5 L5 ho2 hl2 ho1 hl1 hk1 R3 hb3 hl3
                go_wp2_with (first
                  | (at_builtin; refine wpList_append_run rfl (.tmp 47) (.tmp 50) _ _ rfl rfl _ _ _ _ rfl rfl R4.out ?_)
                  | fail)
                exact bodyPost_ret (v := .tuple #[v3, .int .i64 0]) (by simp [results, Try.results8, go_sem]) rfl ⟨v3, by rw [E.out.1], by rw [E.out.2]; exact HB3.out, L8.out⟩
          · have hltz : ¬ (k : Int) < (l.length : Int) := by omega
            have hd : decide (k < l.length) = false := decide_eq_false hlt
            have hke : k = l.length := by omega
            have hpl : placeR l y.e = k := by rw [hke]; exact (posY_miss fun i h => HM.out i h (by omega)).2
            have HINS := Lib.hid HI0.out
            rw [hpl] at HINS
            clear hpl
            go_wp2_with fail
            refine Cls.region (Lows wr) (by kernel_rfl) (by kernel_rfl) (low_drewN (Below.refl _ _) 1) ?_
            (try dsimp only [List.append])
            repeat (go_big_quiet_step (first | fail))
            refine wpQuiet_nil ?_
            intro n9
            have hk9 := n9.h
            generalize n9.w = w9 at hk9 ⊢
            clear hne n9 
            have OB5 := Lib.hid (HOB.out.on hk9)
            have L5 := Lib.hid (low_trans HL.out hk9)
            obtain ⟨w5, hw5⟩ : ∃ w5, w5 = w9 := ⟨_, rfl⟩
            subst hw5
            clear hk9 HOB HL
            clear HYE HOK HI0 HM HS hd
            cases A with
            | none =>
              obtain rfl := HNIL.out rfl
              have h0 : l.length = 0 := by omega
              obtain rfl : l = [] := List.eq_nil_of_length_eq_zero h0
              obtain rfl : k = 0 := by omega
              clear HC HNIL h0 hke hlt hltz
              simp only [List.length_nil, Int.natCast_zero] at *
              have HA1 : Hid (∀ W g, OwnY w5.heap.size W (.slice (some ⟨g, 0, none⟩) 0 0) [] → Lows w5 W → ∃ v1 w1, (Builtin.append_ #[22, 22] 22 #[.slice (some ⟨g, 0, none⟩) 0 0, .slice none 0 0]).run Try.prog W = .ok v1 w1 ∧ (OwnY w5.heap.size w1 v1 (([] : List Ey).take 0) ∧ Lows w5 w1 ∧ ∀ kk vs, kk ≠ g → Blk W kk 29 vs → Blk w1 kk 29 vs)) := Lib.hid fun W g ho hW => by
                obtain ⟨v1, w1, h1, h2, h3, h4⟩ := append_ys ho (Recs.nil _ _ _ : Books W (.slice none 0 0) (([] : List Ey).take 0)) (by simp <;> omega) hW.size
                refine ⟨v1, w1, h1, by simpa using h2, hW.trans h3, fun kk vs hkk hb => (h4 kk hb.lt (by simp [Value.ownBlock]; exact hkk)).trans hb⟩
              have HA2 : Hid (∀ W u g, OwnY w5.heap.size W u (([] : List Ey).take 0) → Blk W g 29 [.bool y.e.a.v6, .int .u64 y.e.a.hi, .int .u64 y.e.a.lo, .int .i64 y.e.n, .int .i64 y.st, .int .i64 y.f, .int .i64 y.nx] → Lows w5 W → ∃ v1 w1, (Builtin.append_ #[22, 22] 22 #[u, .slice (some ⟨g, 0, none⟩) 1 1]).run Try.prog W = .ok v1 w1 ∧ (OwnY w5.heap.size w1 v1 (([] : List Ey).take 0 ++ [y]) ∧ Lows w5 w1)) := Lib.hid fun W u g ho hb hW => by
                have hP : Books W (.slice (some ⟨g, 0, none⟩) 1 1) [y] := Blk.reads (m := 1) encY_len7 hb (by rfl) rfl (Nat.le_refl _)
                obtain ⟨v1, w1, h1, h2, h3⟩ := append_entries ho hP (by simp <;> omega) hW.size
                exact ⟨v1, w1, h1, h2, hW.trans h3⟩
              have HA3 : Hid (∀ W u, OwnY w5.heap.size W u (([] : List Ey).take 0 ++ [y]) → Lows w5 W → ∃ v1 w1, (Builtin.append_ #[22, 22] 22 #[u, .slice none 0 0]).run Try.prog W = .ok v1 w1 ∧ (Books w1 v1 (insR [] y) ∧ Lows w5 w1)) := Lib.hid fun W u ho hW => by
                obtain ⟨v1, w1, h1, h2, h3⟩ := append_entries ho (Recs.nil _ _ _ : Books W (.slice none 0 0) (([] : List Ey).drop 0)) (by simp <;> omega) hW.size
                exact ⟨v1, w1, h1, by rw [HINS.out]; have := ownY_books h2; simpa using this, hW.trans h3⟩
              have hgw : w.heap.size < w5.heap.size := OB5.out.lt
              have hgx : ¬ w.heap.size = w5.heap.size := by omega
              have hgy : ¬ w.heap.size = w5.heap.size + 1 := by omega
              have p0 := OB5.out.cell (j := 0) rfl
              have p1 := OB5.out.cell (j := 1) rfl
              have p2 := OB5.out.cell (j := 2) rfl
              have p3 := OB5.out.cell (j := 3) rfl
              have p4 := OB5.out.cell (j := 4) rfl
              have p5 := OB5.out.cell (j := 5) rfl
              have p6 := OB5.out.cell (j := 6) rfl
              clear PW
              go_upto_region 10 with fail
              go_region_law (first
                | (refine step_append_ex rfl (.tmp 39) (.tmp 42) _ _ rfl rfl _ _ (by first | rfl | simp [Act.eval]) (by first | rfl | simp [Act.eval]) (HA1.out _ _ (by repeat (first | (with_reducible exact ownY_nil_at _ _ (by first | rfl | (simp; done)) (by first | exact Nat.le_refl _ | (simp; done) | (simp; omega))) | (with_reducible refine ownY_drew ?_) | (with_reducible refine ownY_alloc ?_ _))) (by repeat (first | (with_reducible exact Lows.self _) | (with_reducible assumption) | (with_reducible refine Lows.drew ?_) | (with_reducible refine Lows.alloc ?_ _)))) ?_; rintro v1 w6 ⟨ho1, hl1, hk1⟩
                   have OBa := OB5.out.on hl1
                   have hga : w.heap.size < w6.heap.size := OBa.lt
                   have hgb : ¬ w.heap.size = w6.heap.size := by omega
                   have p0 := OBa.cell (j := 0) rfl
                   have p1 := OBa.cell (j := 1) rfl
                   have p2 := OBa.cell (j := 2) rfl
                   have p3 := OBa.cell (j := 3) rfl
                   have p4 := OBa.cell (j := 4) rfl
                   have p5 := OBa.cell (j := 5) rfl
                   have p6 := OBa.cell (j := 6) rfl
                   clear OBa)
                | (refine step_append_ex rfl (.tmp 43) (.tmp 45) _ _ rfl rfl _ _ (by first | rfl | simp [Act.eval]) (by first | rfl | simp [Act.eval]) (HA2.out _ v1 _ (by repeat (first | (with_reducible exact ho1) | (with_reducible refine ownY_drew ?_) | (with_reducible refine ownY_alloc ?_ _))) (by repeat (first | (with_reducible exact blkN_at _ _ (by first | rfl | (simp; done)) rfl) | (with_reducible refine hk1 _ _ (by first | (simp; done) | (simp; omega)) ?_) | (with_reducible refine Blk.drew ?_) | (with_reducible refine Blk.alloc ?_ _))) (by repeat (first | (with_reducible exact Lows.self _) | (with_reducible assumption) | (with_reducible refine Lows.drew ?_) | (with_reducible refine Lows.alloc ?_ _)))) ?_; rintro v2 w7 ⟨ho2, hl2⟩))
              all_goals
                obtain ⟨v3, w8, R3, hb3, hl3⟩ := HA3.out w7 v2 ho2 hl2
                have R4 := Lib.hid R3
                have HB3 := Lib.hid hb3
                have L8 := Lib.hid (low_trans L5.out hl3)
                clear HA1 HA2 HA3 OB5 L5 ho2 hl2 ho1 hl1 hk1 R3 hb3 hl3
                go_wp2_with (first
                  | (at_builtin; refine wpList_append_run rfl (.tmp 47) (.tmp 50) _ _ rfl rfl _ _ _ _ rfl rfl R4.out ?_)
                  | fail)
                exact bodyPost_ret (v := .tuple #[v3, .int .i64 0]) (by simp [results, Try.results8, go_sem]) rfl ⟨v3, by rw [E.out.1], by rw [E.out.2]; exact HB3.out, L8.out⟩
            | some a =>
              by_cases h0 : l.length = 0
              · obtain rfl : l = [] := List.eq_nil_of_length_eq_zero h0
                obtain rfl : k = 0 := by omega
                obtain ⟨bb, o, q⟩ := a
                clear HC HNIL h0 hke hlt hltz
                by_cases hc0 : c = 0
                · subst hc0
                  have HA1 : Hid (∀ W g, OwnY w5.heap.size W (.slice (some ⟨g, 0, none⟩) 0 0) [] → Lows w5 W → ∃ v1 w1, (Builtin.append_ #[22, 22] 22 #[.slice (some ⟨g, 0, none⟩) 0 0, .slice (some ⟨bb, o, q⟩) 0 0]).run Try.prog W = .ok v1 w1 ∧ (OwnY w5.heap.size w1 v1 (([] : List Ey).take 0) ∧ Lows w5 w1 ∧ ∀ kk vs, kk ≠ g → Blk W kk 29 vs → Blk w1 kk 29 vs)) := Lib.hid fun W g ho hW => by
                    obtain ⟨v1, w1, h1, h2, h3, h4⟩ := append_ys ho (Recs.void _ _ _ _ (fun h => by cases h) : Books W (.slice (some ⟨bb, o, q⟩) 0 0) (([] : List Ey).take 0)) (by simp <;> omega) hW.size
                    refine ⟨v1, w1, h1, by simpa using h2, hW.trans h3, fun kk vs hkk hb => (h4 kk hb.lt (by simp [Value.ownBlock]; exact hkk)).trans hb⟩
                  have HA2 : Hid (∀ W u g, OwnY w5.heap.size W u (([] : List Ey).take 0) → Blk W g 29 [.bool y.e.a.v6, .int .u64 y.e.a.hi, .int .u64 y.e.a.lo, .int .i64 y.e.n, .int .i64 y.st, .int .i64 y.f, .int .i64 y.nx] → Lows w5 W → ∃ v1 w1, (Builtin.append_ #[22, 22] 22 #[u, .slice (some ⟨g, 0, none⟩) 1 1]).run Try.prog W = .ok v1 w1 ∧ (OwnY w5.heap.size w1 v1 (([] : List Ey).take 0 ++ [y]) ∧ Lows w5 w1)) := Lib.hid fun W u g ho hb hW => by
                    have hP : Books W (.slice (some ⟨g, 0, none⟩) 1 1) [y] := Blk.reads (m := 1) encY_len7 hb (by rfl) rfl (Nat.le_refl _)
                    obtain ⟨v1, w1, h1, h2, h3⟩ := append_entries ho hP (by simp <;> omega) hW.size
                    exact ⟨v1, w1, h1, h2, hW.trans h3⟩
                  have HA3 : Hid (∀ W u, OwnY w5.heap.size W u (([] : List Ey).take 0 ++ [y]) → Lows w5 W → ∃ v1 w1, (Builtin.append_ #[22, 22] 22 #[u, .slice (some ⟨bb, o, q⟩) 0 0]).run Try.prog W = .ok v1 w1 ∧ (Books w1 v1 (insR [] y) ∧ Lows w5 w1)) := Lib.hid fun W u ho hW => by
                    obtain ⟨v1, w1, h1, h2, h3⟩ := append_entries ho (Recs.void _ _ _ _ (fun h => by cases h) : Books W (.slice (some ⟨bb, o, q⟩) 0 0) (([] : List Ey).drop 0)) (by simp <;> omega) hW.size
                    exact ⟨v1, w1, h1, by rw [HINS.out]; have := ownY_books h2; simpa using this, hW.trans h3⟩
                  have hgw : w.heap.size < w5.heap.size := OB5.out.lt
                  have hgx : ¬ w.heap.size = w5.heap.size := by omega
                  have hgy : ¬ w.heap.size = w5.heap.size + 1 := by omega
                  have p0 := OB5.out.cell (j := 0) rfl
                  have p1 := OB5.out.cell (j := 1) rfl
                  have p2 := OB5.out.cell (j := 2) rfl
                  have p3 := OB5.out.cell (j := 3) rfl
                  have p4 := OB5.out.cell (j := 4) rfl
                  have p5 := OB5.out.cell (j := 5) rfl
                  have p6 := OB5.out.cell (j := 6) rfl
                  clear PW
                  go_upto_region 10 with fail
                  go_region_law (first
                    | (refine step_append_ex rfl (.tmp 39) (.tmp 42) _ _ rfl rfl _ _ (by first | rfl | simp [Act.eval]) (by first | rfl | simp [Act.eval]) (HA1.out _ _ (by repeat (first | (with_reducible exact ownY_nil_at _ _ (by first | rfl | (simp; done)) (by first | exact Nat.le_refl _ | (simp; done) | (simp; omega))) | (with_reducible refine ownY_drew ?_) | (with_reducible refine ownY_alloc ?_ _))) (by repeat (first | (with_reducible exact Lows.self _) | (with_reducible assumption) | (with_reducible refine Lows.drew ?_) | (with_reducible refine Lows.alloc ?_ _)))) ?_; rintro v1 w6 ⟨ho1, hl1, hk1⟩
                       have OBa := OB5.out.on hl1
                       have hga : w.heap.size < w6.heap.size := OBa.lt
                       have hgb : ¬ w.heap.size = w6.heap.size := by omega
                       have p0 := OBa.cell (j := 0) rfl
                       have p1 := OBa.cell (j := 1) rfl
                       have p2 := OBa.cell (j := 2) rfl
                       have p3 := OBa.cell (j := 3) rfl
                       have p4 := OBa.cell (j := 4) rfl
                       have p5 := OBa.cell (j := 5) rfl
                       have p6 := OBa.cell (j := 6) rfl
                       clear OBa)
                    | (refine step_append_ex rfl (.tmp 43) (.tmp 45) _ _ rfl rfl _ _ (by first | rfl | simp [Act.eval]) (by first | rfl | simp [Act.eval]) (HA2.out _ v1 _ (by repeat (first | (with_reducible exact ho1) | (with_reducible refine ownY_drew ?_) | (with_reducible refine ownY_alloc ?_ _))) (by repeat (first | (with_reducible exact blkN_at _ _ (by first | rfl | (simp; done)) rfl) | (with_reducible refine hk1 _ _ (by first | (simp; done) | (simp; omega)) ?_) | (with_reducible refine Blk.drew ?_) | (with_reducible refine Blk.alloc ?_ _))) (by repeat (first | (with_reducible exact Lows.self _) | (with_reducible assumption) | (with_reducible refine Lows.drew ?_) | (with_reducible refine Lows.alloc ?_ _)))) ?_; rintro v2 w7 ⟨ho2, hl2⟩))
                  all_goals
                    obtain ⟨v3, w8, R3, hb3, hl3⟩ := HA3.out w7 v2 ho2 hl2
                    have R4 := Lib.hid R3
                    have HB3 := Lib.hid hb3
                    have L8 := Lib.hid (low_trans L5.out hl3)
                    clear HA1 HA2 HA3 OB5 L5 ho2 hl2 ho1 hl1 hk1 R3 hb3 hl3
                    go_wp2_with (first
                      | (at_builtin; refine wpList_append_run rfl (.tmp 47) (.tmp 50) _ _ rfl rfl _ _ _ _ rfl rfl R4.out ?_)
                      | fail)
                    exact bodyPost_ret (v := .tuple #[v3, .int .i64 0]) (by simp [results, Try.results8, go_sem]) rfl ⟨v3, by rw [E.out.1], by rw [E.out.2]; exact HB3.out, L8.out⟩
                · have hi7 := hc0
                  have HA1 : Hid (∀ W g, OwnY w5.heap.size W (.slice (some ⟨g, 0, none⟩) 0 0) [] → Lows w5 W → ∃ v1 w1, (Builtin.append_ #[22, 22] 22 #[.slice (some ⟨g, 0, none⟩) 0 0, .slice (some ⟨bb, o, q⟩) 0 c]).run Try.prog W = .ok v1 w1 ∧ (OwnY w5.heap.size w1 v1 (([] : List Ey).take 0) ∧ Lows w5 w1 ∧ ∀ kk vs, kk ≠ g → Blk W kk 29 vs → Blk w1 kk 29 vs)) := Lib.hid fun W g ho hW => by
                    obtain ⟨v1, w1, h1, h2, h3, h4⟩ := append_ys ho (Recs.void _ _ _ _ (fun h => by cases h) : Books W (.slice (some ⟨bb, o, q⟩) 0 c) (([] : List Ey).take 0)) (by simp <;> omega) hW.size
                    refine ⟨v1, w1, h1, by simpa using h2, hW.trans h3, fun kk vs hkk hb => (h4 kk hb.lt (by simp [Value.ownBlock]; exact hkk)).trans hb⟩
                  have HA2 : Hid (∀ W u g, OwnY w5.heap.size W u (([] : List Ey).take 0) → Blk W g 29 [.bool y.e.a.v6, .int .u64 y.e.a.hi, .int .u64 y.e.a.lo, .int .i64 y.e.n, .int .i64 y.st, .int .i64 y.f, .int .i64 y.nx] → Lows w5 W → ∃ v1 w1, (Builtin.append_ #[22, 22] 22 #[u, .slice (some ⟨g, 0, none⟩) 1 1]).run Try.prog W = .ok v1 w1 ∧ (OwnY w5.heap.size w1 v1 (([] : List Ey).take 0 ++ [y]) ∧ Lows w5 w1)) := Lib.hid fun W u g ho hb hW => by
                    have hP : Books W (.slice (some ⟨g, 0, none⟩) 1 1) [y] := Blk.reads (m := 1) encY_len7 hb (by rfl) rfl (Nat.le_refl _)
                    obtain ⟨v1, w1, h1, h2, h3⟩ := append_entries ho hP (by simp <;> omega) hW.size
                    exact ⟨v1, w1, h1, h2, hW.trans h3⟩
                  have HA3 : Hid (∀ W u, OwnY w5.heap.size W u (([] : List Ey).take 0 ++ [y]) → Lows w5 W → ∃ v1 w1, (Builtin.append_ #[22, 22] 22 #[u, .slice (some ⟨bb, o, q⟩) 0 c]).run Try.prog W = .ok v1 w1 ∧ (Books w1 v1 (insR [] y) ∧ Lows w5 w1)) := Lib.hid fun W u ho hW => by
                    obtain ⟨v1, w1, h1, h2, h3⟩ := append_entries ho (Recs.void _ _ _ _ (fun h => by cases h) : Books W (.slice (some ⟨bb, o, q⟩) 0 c) (([] : List Ey).drop 0)) (by simp <;> omega) hW.size
                    exact ⟨v1, w1, h1, by rw [HINS.out]; have := ownY_books h2; simpa using this, hW.trans h3⟩
                  have hgw : w.heap.size < w5.heap.size := OB5.out.lt
                  have hgx : ¬ w.heap.size = w5.heap.size := by omega
                  have hgy : ¬ w.heap.size = w5.heap.size + 1 := by omega
                  have p0 := OB5.out.cell (j := 0) rfl
                  have p1 := OB5.out.cell (j := 1) rfl
                  have p2 := OB5.out.cell (j := 2) rfl
                  have p3 := OB5.out.cell (j := 3) rfl
                  have p4 := OB5.out.cell (j := 4) rfl
                  have p5 := OB5.out.cell (j := 5) rfl
                  have p6 := OB5.out.cell (j := 6) rfl
                  clear PW
                  go_upto_region 10 with fail
                  go_region_law (first
                    | (refine step_append_ex rfl (.tmp 39) (.tmp 42) _ _ rfl rfl _ _ (by first | rfl | simp [Act.eval]) (by first | rfl | simp [Act.eval]) (HA1.out _ _ (by repeat (first | (with_reducible exact ownY_nil_at _ _ (by first | rfl | (simp; done)) (by first | exact Nat.le_refl _ | (simp; done) | (simp; omega))) | (with_reducible refine ownY_drew ?_) | (with_reducible refine ownY_alloc ?_ _))) (by repeat (first | (with_reducible exact Lows.self _) | (with_reducible assumption) | (with_reducible refine Lows.drew ?_) | (with_reducible refine Lows.alloc ?_ _)))) ?_; rintro v1 w6 ⟨ho1, hl1, hk1⟩
                       have OBa := OB5.out.on hl1
                       have hga : w.heap.size < w6.heap.size := OBa.lt
                       have hgb : ¬ w.heap.size = w6.heap.size := by omega
                       have p0 := OBa.cell (j := 0) rfl
                       have p1 := OBa.cell (j := 1) rfl
                       have p2 := OBa.cell (j := 2) rfl
                       have p3 := OBa.cell (j := 3) rfl
                       have p4 := OBa.cell (j := 4) rfl
                       have p5 := OBa.cell (j := 5) rfl
                       have p6 := OBa.cell (j := 6) rfl
                       clear OBa)
                    | (refine step_append_ex rfl (.tmp 43) (.tmp 45) _ _ rfl rfl _ _ (by first | rfl | simp [Act.eval]) (by first | rfl | simp [Act.eval]) (HA2.out _ v1 _ (by repeat (first | (with_reducible exact ho1) | (with_reducible refine ownY_drew ?_) | (with_reducible refine ownY_alloc ?_ _))) (by repeat (first | (with_reducible exact blkN_at _ _ (by first | rfl | (simp; done)) rfl) | (with_reducible refine hk1 _ _ (by first | (simp; done) | (simp; omega)) ?_) | (with_reducible refine Blk.drew ?_) | (with_reducible refine Blk.alloc ?_ _))) (by repeat (first | (with_reducible exact Lows.self _) | (with_reducible assumption) | (with_reducible refine Lows.drew ?_) | (with_reducible refine Lows.alloc ?_ _)))) ?_; rintro v2 w7 ⟨ho2, hl2⟩))
                  all_goals
                    obtain ⟨v3, w8, R3, hb3, hl3⟩ := HA3.out w7 v2 ho2 hl2
                    have R4 := Lib.hid R3
                    have HB3 := Lib.hid hb3
                    have L8 := Lib.hid (low_trans L5.out hl3)
                    clear HA1 HA2 HA3 OB5 L5 ho2 hl2 ho1 hl1 hk1 R3 hb3 hl3
                    go_wp2_with (first
                      | (at_builtin; refine wpList_append_run rfl (.tmp 47) (.tmp 50) _ _ rfl rfl _ _ _ _ rfl rfl R4.out ?_)
                      | fail)
                    exact bodyPost_ret (v := .tuple #[v3, .int .i64 0]) (by simp [results, Try.results8, go_sem]) rfl ⟨v3, by rw [E.out.1], by rw [E.out.2]; exact HB3.out, L8.out⟩
              · obtain ⟨bb, o, hae, _, _⟩ := HC.out (by omega)
                obtain rfl := Option.some.inj hae
                clear HC HNIL h0 hae hltz
                by_cases hce : c = k
                · have hil : l.length = k := hke.symm
                  clear hke hlt
                  have HA1 : Hid (∀ W g, OwnY w5.heap.size W (.slice (some ⟨g, 0, none⟩) 0 0) [] → Lows w5 W → ∃ v1 w1, (Builtin.append_ #[22, 22] 22 #[.slice (some ⟨g, 0, none⟩) 0 0, .slice (some ⟨bb, o, none⟩) k c]).run Try.prog W = .ok v1 w1 ∧ (OwnY w5.heap.size w1 v1 (l.take k) ∧ Lows w5 w1 ∧ ∀ kk vs, kk ≠ g → Blk W kk 29 vs → Blk w1 kk 29 vs)) := Lib.hid fun W g ho hW => by
                    obtain ⟨v1, w1, h1, h2, h3, h4⟩ := append_ys ho ((PW.out _ (low_trans L5.out hW)).part (i := k) (by omega) : Books W (.slice (some ⟨bb, o, none⟩) k c) (l.take k)) (by simp <;> omega) hW.size
                    refine ⟨v1, w1, h1, by simpa using h2, hW.trans h3, fun kk vs hkk hb => (h4 kk hb.lt (by simp [Value.ownBlock]; exact hkk)).trans hb⟩
                  have HA2 : Hid (∀ W u g, OwnY w5.heap.size W u (l.take k) → Blk W g 29 [.bool y.e.a.v6, .int .u64 y.e.a.hi, .int .u64 y.e.a.lo, .int .i64 y.e.n, .int .i64 y.st, .int .i64 y.f, .int .i64 y.nx] → Lows w5 W → ∃ v1 w1, (Builtin.append_ #[22, 22] 22 #[u, .slice (some ⟨g, 0, none⟩) 1 1]).run Try.prog W = .ok v1 w1 ∧ (OwnY w5.heap.size w1 v1 (l.take k ++ [y]) ∧ Lows w5 w1)) := Lib.hid fun W u g ho hb hW => by
                    have hP : Books W (.slice (some ⟨g, 0, none⟩) 1 1) [y] := Blk.reads (m := 1) encY_len7 hb (by rfl) rfl (Nat.le_refl _)
                    obtain ⟨v1, w1, h1, h2, h3⟩ := append_entries ho hP (by simp <;> omega) hW.size
                    exact ⟨v1, w1, h1, h2, hW.trans h3⟩
                  have HA3 : Hid (∀ W u, OwnY w5.heap.size W u (l.take k ++ [y]) → Lows w5 W → ∃ v1 w1, (Builtin.append_ #[22, 22] 22 #[u, .slice (some ⟨bb, o, none⟩) 0 0]).run Try.prog W = .ok v1 w1 ∧ (Books w1 v1 (insR l y) ∧ Lows w5 w1)) := Lib.hid fun W u ho hW => by
                    obtain ⟨v1, w1, h1, h2, h3⟩ := append_entries ho (by rw [List.drop_of_length_le (by omega)]; exact Recs.void _ _ _ _ (fun h => by cases h) : Books W (.slice (some ⟨bb, o, none⟩) 0 0) (l.drop k)) (by simp <;> omega) hW.size
                    exact ⟨v1, w1, h1, by rw [HINS.out]; have := ownY_books h2; simpa using this, hW.trans h3⟩
                  have hgw : w.heap.size < w5.heap.size := OB5.out.lt
                  have hgx : ¬ w.heap.size = w5.heap.size := by omega
                  have hgy : ¬ w.heap.size = w5.heap.size + 1 := by omega
                  have p0 := OB5.out.cell (j := 0) rfl
                  have p1 := OB5.out.cell (j := 1) rfl
                  have p2 := OB5.out.cell (j := 2) rfl
                  have p3 := OB5.out.cell (j := 3) rfl
                  have p4 := OB5.out.cell (j := 4) rfl
                  have p5 := OB5.out.cell (j := 5) rfl
                  have p6 := OB5.out.cell (j := 6) rfl
                  clear PW
                  subst hce
                  go_upto_region 10 with fail
                  go_region_law (first
                    | (refine step_append_ex rfl (.tmp 39) (.tmp 42) _ _ rfl rfl _ _ (by first | rfl | simp [Act.eval]) (by first | rfl | simp [Act.eval]) (HA1.out _ _ (by repeat (first | (with_reducible exact ownY_nil_at _ _ (by first | rfl | (simp; done)) (by first | exact Nat.le_refl _ | (simp; done) | (simp; omega))) | (with_reducible refine ownY_drew ?_) | (with_reducible refine ownY_alloc ?_ _))) (by repeat (first | (with_reducible exact Lows.self _) | (with_reducible assumption) | (with_reducible refine Lows.drew ?_) | (with_reducible refine Lows.alloc ?_ _)))) ?_; rintro v1 w6 ⟨ho1, hl1, hk1⟩
                       have OBa := OB5.out.on hl1
                       have hga : w.heap.size < w6.heap.size := OBa.lt
                       have hgb : ¬ w.heap.size = w6.heap.size := by omega
                       have p0 := OBa.cell (j := 0) rfl
                       have p1 := OBa.cell (j := 1) rfl
                       have p2 := OBa.cell (j := 2) rfl
                       have p3 := OBa.cell (j := 3) rfl
                       have p4 := OBa.cell (j := 4) rfl
                       have p5 := OBa.cell (j := 5) rfl
                       have p6 := OBa.cell (j := 6) rfl
                       clear OBa)
                    | (refine step_append_ex rfl (.tmp 43) (.tmp 45) _ _ rfl rfl _ _ (by first | rfl | simp [Act.eval]) (by first | rfl | simp [Act.eval]) (HA2.out _ v1 _ (by repeat (first | (with_reducible exact ho1) | (with_reducible refine ownY_drew ?_) | (with_reducible refine ownY_alloc ?_ _))) (by repeat (first | (with_reducible exact blkN_at _ _ (by first | rfl | (simp; done)) rfl) | (with_reducible refine hk1 _ _ (by first | (simp; done) | (simp; omega)) ?_) | (with_reducible refine Blk.drew ?_) | (with_reducible refine Blk.alloc ?_ _))) (by repeat (first | (with_reducible exact Lows.self _) | (with_reducible assumption) | (with_reducible refine Lows.drew ?_) | (with_reducible refine Lows.alloc ?_ _)))) ?_; rintro v2 w7 ⟨ho2, hl2⟩))
                  all_goals
                    obtain ⟨v3, w8, R3, hb3, hl3⟩ := HA3.out w7 v2 ho2 hl2
                    have R4 := Lib.hid R3
                    have HB3 := Lib.hid hb3
                    have L8 := Lib.hid (low_trans L5.out hl3)
                    clear HA1 HA2 HA3 OB5 L5 ho2 hl2 ho1 hl1 hk1 R3 hb3 hl3
                    go_wp2_with (first
                      | (at_builtin; refine wpList_append_run rfl (.tmp 47) (.tmp 50) _ _ rfl rfl _ _ _ _ rfl rfl R4.out ?_)
                      | fail)
                    exact bodyPost_ret (v := .tuple #[v3, .int .i64 0]) (by simp [results, Try.results8, go_sem]) rfl ⟨v3, by rw [E.out.1], by rw [E.out.2]; exact HB3.out, L8.out⟩
                · have hi7 : ¬ c = k := hce
                  have hil : l.length = k := hke.symm
                  clear hce hlt hke
                  have HA1 : Hid (∀ W g, OwnY w5.heap.size W (.slice (some ⟨g, 0, none⟩) 0 0) [] → Lows w5 W → ∃ v1 w1, (Builtin.append_ #[22, 22] 22 #[.slice (some ⟨g, 0, none⟩) 0 0, .slice (some ⟨bb, o, none⟩) k c]).run Try.prog W = .ok v1 w1 ∧ (OwnY w5.heap.size w1 v1 (l.take k) ∧ Lows w5 w1 ∧ ∀ kk vs, kk ≠ g → Blk W kk 29 vs → Blk w1 kk 29 vs)) := Lib.hid fun W g ho hW => by
                    obtain ⟨v1, w1, h1, h2, h3, h4⟩ := append_ys ho ((PW.out _ (low_trans L5.out hW)).part (i := k) (by omega) : Books W (.slice (some ⟨bb, o, none⟩) k c) (l.take k)) (by simp <;> omega) hW.size
                    refine ⟨v1, w1, h1, by simpa using h2, hW.trans h3, fun kk vs hkk hb => (h4 kk hb.lt (by simp [Value.ownBlock]; exact hkk)).trans hb⟩
                  have HA2 : Hid (∀ W u g, OwnY w5.heap.size W u (l.take k) → Blk W g 29 [.bool y.e.a.v6, .int .u64 y.e.a.hi, .int .u64 y.e.a.lo, .int .i64 y.e.n, .int .i64 y.st, .int .i64 y.f, .int .i64 y.nx] → Lows w5 W → ∃ v1 w1, (Builtin.append_ #[22, 22] 22 #[u, .slice (some ⟨g, 0, none⟩) 1 1]).run Try.prog W = .ok v1 w1 ∧ (OwnY w5.heap.size w1 v1 (l.take k ++ [y]) ∧ Lows w5 w1)) := Lib.hid fun W u g ho hb hW => by
                    have hP : Books W (.slice (some ⟨g, 0, none⟩) 1 1) [y] := Blk.reads (m := 1) encY_len7 hb (by rfl) rfl (Nat.le_refl _)
                    obtain ⟨v1, w1, h1, h2, h3⟩ := append_entries ho hP (by simp <;> omega) hW.size
                    exact ⟨v1, w1, h1, h2, hW.trans h3⟩
                  have HA3 : Hid (∀ W u, OwnY w5.heap.size W u (l.take k ++ [y]) → Lows w5 W → ∃ v1 w1, (Builtin.append_ #[22, 22] 22 #[u, .slice (some ⟨bb, o + k * 7, none⟩) 0 (c - k)]).run Try.prog W = .ok v1 w1 ∧ (Books w1 v1 (insR l y) ∧ Lows w5 w1)) := Lib.hid fun W u ho hW => by
                    obtain ⟨v1, w1, h1, h2, h3⟩ := append_entries ho (by rw [List.drop_of_length_le (by omega)]; exact Recs.void _ _ _ _ (fun h => by cases h) : Books W (.slice (some ⟨bb, o + k * 7, none⟩) 0 (c - k)) (l.drop k)) (by simp <;> omega) hW.size
                    exact ⟨v1, w1, h1, by rw [HINS.out]; have := ownY_books h2; simpa using this, hW.trans h3⟩
                  have hgw : w.heap.size < w5.heap.size := OB5.out.lt
                  have hgx : ¬ w.heap.size = w5.heap.size := by omega
                  have hgy : ¬ w.heap.size = w5.heap.size + 1 := by omega
                  have p0 := OB5.out.cell (j := 0) rfl
                  have p1 := OB5.out.cell (j := 1) rfl
                  have p2 := OB5.out.cell (j := 2) rfl
                  have p3 := OB5.out.cell (j := 3) rfl
                  have p4 := OB5.out.cell (j := 4) rfl
                  have p5 := OB5.out.cell (j := 5) rfl
                  have p6 := OB5.out.cell (j := 6) rfl
                  clear PW
                  go_upto_region 10 with fail
                  go_region_law (first
                    | (refine step_append_ex rfl (.tmp 39) (.tmp 42) _ _ rfl rfl _ _ (by first | rfl | simp [Act.eval]) (by first | rfl | simp [Act.eval]) (HA1.out _ _ (by repeat (first | (with_reducible exact ownY_nil_at _ _ (by first | rfl | (simp; done)) (by first | exact Nat.le_refl _ | (simp; done) | (simp; omega))) | (with_reducible refine ownY_drew ?_) | (with_reducible refine ownY_alloc ?_ _))) (by repeat (first | (with_reducible exact Lows.self _) | (with_reducible assumption) | (with_reducible refine Lows.drew ?_) | (with_reducible refine Lows.alloc ?_ _)))) ?_; rintro v1 w6 ⟨ho1, hl1, hk1⟩
                       have OBa := OB5.out.on hl1
                       have hga : w.heap.size < w6.heap.size := OBa.lt
                       have hgb : ¬ w.heap.size = w6.heap.size := by omega
                       have p0 := OBa.cell (j := 0) rfl
                       have p1 := OBa.cell (j := 1) rfl
                       have p2 := OBa.cell (j := 2) rfl
                       have p3 := OBa.cell (j := 3) rfl
                       have p4 := OBa.cell (j := 4) rfl
                       have p5 := OBa.cell (j := 5) rfl
                       have p6 := OBa.cell (j := 6) rfl
                       clear OBa)
                    | (refine step_append_ex rfl (.tmp 43) (.tmp 45) _ _ rfl rfl _ _ (by first | rfl | simp [Act.eval]) (by first | rfl | simp [Act.eval]) (HA2.out _ v1 _ (by repeat (first | (with_reducible exact ho1) | (with_reducible refine ownY_drew ?_) | (with_reducible refine ownY_alloc ?_ _))) (by repeat (first | (with_reducible exact blkN_at _ _ (by first | rfl | (simp; done)) rfl) | (with_reducible refine hk1 _ _ (by first | (simp; done) | (simp; omega)) ?_) | (with_reducible refine Blk.drew ?_) | (with_reducible refine Blk.alloc ?_ _))) (by repeat (first | (with_reducible exact Lows.self _) | (with_reducible assumption) | (with_reducible refine Lows.drew ?_) | (with_reducible refine Lows.alloc ?_ _)))) ?_; rintro v2 w7 ⟨ho2, hl2⟩))
                  all_goals
                    obtain ⟨v3, w8, R3, hb3, hl3⟩ := HA3.out w7 v2 ho2 hl2
                    have R4 := Lib.hid R3
                    have HB3 := Lib.hid hb3
                    have L8 := Lib.hid (low_trans L5.out hl3)
                    clear HA1 HA2 HA3 OB5 L5 ho2 hl2 ho1 hl1 hk1 R3 hb3 hl3
                    go_wp2_with (first
                      | (at_builtin; refine wpList_append_run rfl (.tmp 47) (.tmp 50) _ _ rfl rfl _ _ _ _ rfl rfl R4.out ?_)
                      | fail)
                    exact bodyPost_ret (v := .tuple #[v3, .int .i64 0]) (by simp [results, Try.results8, go_sem]) rfl ⟨v3, by rw [E.out.1], by rw [E.out.2]; exact HB3.out, L8.out⟩
end Go.Proofs.Ytnflgcpacacnlaa.Bo
