/- The document's answers of layer 27: one subnet put in. -/
import Derived.Test.YtbonfmjalgfgaaaSpreadMem
import Derived.Test.YtbonfmjalgfgaaaPeersAll
import Derived.Test.YtbonfmjalgfgaaaBookAll
import Derived.Test.YtbonfmjalgfgaaaRef11All
import Derived.Test.YtbonfmjalgfgaaaRef26All
import Derived.Deep.RegionHeld3
namespace Go.Proofs.Ytbonfmjalgfgaaa.Sp
set_option maxRecDepth 100000
open Go.ChangeShapes Go.WideShapes Go.ChangeAt Go.RowKit
open Pe Et Ra Bo
open Dec Words V4 V6 Ad Ci En Gr Go.Deep
set_option linter.unusedVariables false
theorem netlow {B : Nat} {a b c : World} (h : Below B a b) (k : Lows b c) (hB : B ≤ a.heap.size := by exact Nat.le_refl _) : Below B a c := h.trans (k.mono (Nat.le_trans hB h.size))
theorem net_at {w : World} {bb o : Nat} {l : List Net} {wr : World} (hlow : Below w.heap.size w wr) (hb : bb < w.heap.size) (hcc : ∀ i (h : i < l.length) j u, (encM l[i])[j]? = some u → w.cell? ⟨bb, o + i * 4 + j, none⟩ = some u) {i : Nat} (hi : i < l.length) {j : Nat} {u : Value} (hu : (encM l[i]!)[j]? = some u) : wr.cell? ⟨bb, o + i * 4 + j, none⟩ = some u := by
  rw [getElem!_pos l i hi] at hu
  exact (hlow.cell (p := ⟨bb, o + i * 4 + j, none⟩) hb).trans (hcc i hi j u hu)
theorem ownM_nil_at {B : Nat} (W : World) (g : Nat) (hg : g = W.heap.size) (hB : B ≤ W.heap.size) : OwnM B (W.alloc (.cells #[] 40)) (.slice (some ⟨g, 0, none⟩) 0 0) [] := by rw [hg]; exact ownM_lit W hB
theorem ownM_drew {B : Nat} {W : World} {v : Value} {l : List Net} (h : OwnM B W v l) : OwnM B W.drew v l := World.ownsRow.drew h
theorem ownM_alloc {B : Nat} {W : World} {v : Value} {l : List Net} (h : OwnM B W v l) (o : Obj) : OwnM B (W.alloc o) v l := World.ownsRow.alloc h o
theorem append_M3 {B : Nat} {W : World} {v x : Value} {xs ys : List Net} (hown : OwnM B W v xs) (hy : Nets W x ys) (hlen : xs.length + ys.length ≤ 1000000) (hB : B ≤ W.heap.size) :
    ∃ v' w', (Builtin.append_ #[29, 29] 29 #[v, x]).run Try.prog W = .ok v' w' ∧ OwnM B w' v' (xs ++ ys) ∧ Below B W w' := by
  obtain ⟨v', w', h1, h2, h3, _⟩ := append_Ms hown hy hlen hB
  exact ⟨v', w', h1, h2, h3⟩
theorem neqNet_self (x : Net) (w : World) : (binOp .neq 40 (.agg #[.bool x.a.v6, .int .u64 x.a.hi, .int .u64 x.a.lo, .int .i64 x.n]) (.agg #[.bool x.a.v6, .int .u64 x.a.hi, .int .u64 x.a.lo, .int .i64 x.n])).run Try.prog w = .ok (.bool false) w := by
  rw [neqNet x x w, (sameN_iff x x).2 rfl]; rfl
set_option maxHeartbeats 16000000 in
theorem rput_any (v : Value) (l : List Net) (n : Net) (w : World) (h : Nets w v l) (hok : ∀ x ∈ l, x.ok) (hn : n.ok) (hl : l.length ≤ 800000) :
    Calls Try.prog 16 #[v, .agg #[.bool n.a.v6, .int .u64 n.a.hi, .int .u64 n.a.lo, .int .i64 n.n]] w fun e w' => ∃ u, e = .returned u ∧ Nets w' u (putN l n) ∧ Below w.heap.size w w' := by
  have LL : Hid (Below w.heap.size w (w.alloc (.cells #[.bool n.a.v6, .int .u64 n.a.hi, .int .u64 n.a.lo, .int .i64 n.n] 40))) := Lib.hid ((Below.refl _ _).alloc (Nat.le_refl _) _)
  have OB := Lib.hid (Blk.new w #[.bool n.a.v6, .int .u64 n.a.hi, .int .u64 n.a.lo, .int .i64 n.n] 40)
  have PW : Hid (∀ W, Below w.heap.size w W → Nets W v l) := Lib.hid fun W hW => h.below hW
  obtain ⟨A, c, rfl, hc, hnil, hcell⟩ := h
  have HC := Lib.hid hcell
  have HNIL := Lib.hid hnil
  have HOK := Lib.hid hok
  have HNO := Lib.hid hn
  clear hcell hnil hok hn
  go_enter Try.func16, Try.ntmps16
  go_wp2_with fail
  go_loopw [5] (fun vi wr => ∃ k : Nat, vi = .int .i64 k ∧ k ≤ l.length ∧ Hid (∀ i, i < k → cmpN l[i]! n < 0) ∧ Hid (Lows (w.alloc (.cells #[.bool n.a.v6, .int .u64 n.a.hi, .int .u64 n.a.lo, .int .i64 n.n] 40)) wr)) (fun vi _ => l.length - (intOf vi).toNat)
  case atStart => exact ⟨0, rfl, Nat.zero_le _, Lib.hid (fun _ h => absurd h (Nat.not_lt_zero _)), Lib.hid (Lows.self _)⟩
  case round =>
    obtain ⟨k, rfl, hk, HM, HS⟩ := hrel
    have HL : Hid (Below w.heap.size w wr) := Lib.hid (low_trans LL.out HS.out)
    have HOB := Lib.hid (OB.out.on HS.out)
    have hne : Nonempty (Cls (Lows wr)) := ⟨⟨_, Lows.self _⟩⟩
    have hi1 : (k : Int) ≤ (l.length : Int) := by omega
    have hi2 : (k : Int) ≤ (c : Int) := by omega
    have hi9 : (0 : Int) ≤ (k : Int) := by omega
    by_cases hlt : k < l.length
    · have hltz : (k : Int) < (l.length : Int) := by omega
      have hd : decide (k < l.length) = true := decide_eq_true hlt
      obtain ⟨bb, o, rfl, hb, hcc⟩ := HC.out (by omega)
      obtain ⟨x, hx⟩ : ∃ x, x = l[k]! := ⟨_, rfl⟩
      have hxo : x.ok := by rw [hx, getElem!_pos l k hlt]; exact HOK.out _ (List.getElem_mem _)
      have f0 : ∀ nq : Cls (Lows wr), nq.w.cell? ⟨bb, o + k * 4, none⟩ = some (.bool x.a.v6) := fun nq => by rw [hx]; exact net_at (netlow HL.out nq.h) hb hcc hlt (j := 0) rfl
      have f1 : ∀ nq : Cls (Lows wr), nq.w.cell? ⟨bb, o + k * 4 + 1, none⟩ = some (.int .u64 x.a.hi) := fun nq => by rw [hx]; exact net_at (netlow HL.out nq.h) hb hcc hlt (j := 1) rfl
      have f2 : ∀ nq : Cls (Lows wr), nq.w.cell? ⟨bb, o + k * 4 + 2, none⟩ = some (.int .u64 x.a.lo) := fun nq => by rw [hx]; exact net_at (netlow HL.out nq.h) hb hcc hlt (j := 2) rfl
      have f3 : ∀ nq : Cls (Lows wr), nq.w.cell? ⟨bb, o + k * 4 + 3, none⟩ = some (.int .i64 x.n) := fun nq => by rw [hx]; exact net_at (netlow HL.out nq.h) hb hcc hlt (j := 3) rfl
      have g : ∀ nq : Cls (Lows wr), Blk nq.w w.heap.size 40 [.bool n.a.v6, .int .u64 n.a.hi, .int .u64 n.a.lo, .int .i64 n.n] := fun nq => HOB.out.on nq.h
      have g0 : ∀ nq : Cls (Lows wr), nq.w.cell? ⟨w.heap.size, 0, none⟩ = some (.bool n.a.v6) := fun nq => (g nq).cell (j := 0) rfl
      have g1 : ∀ nq : Cls (Lows wr), nq.w.cell? ⟨w.heap.size, 1, none⟩ = some (.int .u64 n.a.hi) := fun nq => (g nq).cell (j := 1) rfl
      have g2 : ∀ nq : Cls (Lows wr), nq.w.cell? ⟨w.heap.size, 2, none⟩ = some (.int .u64 n.a.lo) := fun nq => (g nq).cell (j := 2) rfl
      have g3 : ∀ nq : Cls (Lows wr), nq.w.cell? ⟨w.heap.size, 3, none⟩ = some (.int .i64 n.n) := fun nq => (g nq).cell (j := 3) rfl
      have KCM := Lib.hid (fun W => rcompareN_any x n W hxo HNO.out)
      have HX := Lib.hid hx
      have HCF : Hid (∀ W, Below w.heap.size w W → ∀ {j : Nat} {u : Value}, (encM x)[j]? = some u → W.cell? ⟨bb, o + k * 4 + j, none⟩ = some u) := Lib.hid fun W hW j u hu => net_at hW hb hcc hlt (by rw [← hx]; exact hu)
      clear hcc hb hx hxo g
      obtain ⟨r, hr⟩ : ∃ r, r = cmpN x n := ⟨_, rfl⟩
      rw [← hr] at KCM
      have HR := Lib.hid hr
      clear hr
      by_cases hc0 : r < 0
      · have hcd : decide (r < 0) = true := decide_eq_true hc0
        have HM2 : Hid (∀ i, i < k + 1 → cmpN l[i]! n < 0) := Lib.hid fun i hi => by
          rcases Nat.lt_succ_iff_lt_or_eq.1 hi with h2 | rfl
          · exact HM.out i h2
          · rw [← HX.out, ← HR.out]; exact hc0
        go_wp2_with fail
        refine Cls.region (Lows wr) (by kernel_rfl) (by kernel_rfl) (low_drewN (Below.refl _ _) 1) ?_
        (try dsimp only [List.append])
        repeat (go_big_quiet_step (first | fail | (with_reducible exact Cls.call ((lows_call KCM).out _ (Cls.h _)))))
        refine wpQuiet_nil ?_
        intro n9
        have hk9 := n9.h
        generalize n9.w = w9 at hk9 ⊢
        clear hne n9 f0 f1 f2 f3 g0 g1 g2 g3
        go_wp2_with fail
        go_roundw
        case rel => exact ⟨k + 1, by go_num, by omega, HM2, Lib.hid (low_trans HS.out hk9)⟩
        case measure => simp [intOf]; omega
      · have hcd : decide (r < 0) = false := decide_eq_false hc0
        have hsp : spotN l n = k := spot_is hk HM.out (fun _ => by rw [← HX.out, ← HR.out]; omega)
        have EQ := fun W => eqNet x n W
        cases hq : sameN x n with
        | true =>
          rw [hq] at EQ
          have HP : Hid (putN l n = l) := Lib.hid (put_same hsp hlt (by rw [← HX.out]; exact (sameN_iff x n).1 hq))
          clear hsp hq
          go_wp2_with fail
          refine Cls.region (Lows wr) (by kernel_rfl) (by kernel_rfl) (low_drewN (Below.refl _ _) 1) ?_
          (try dsimp only [List.append])
          repeat (go_big_quiet_step (first | fail | (with_reducible exact Cls.call ((lows_call KCM).out _ (Cls.h _)))))
          refine wpQuiet_nil ?_
          intro n9
          have hk9 := n9.h
          generalize n9.w = w9 at hk9 ⊢
          clear hne n9 f0 f1 f2 f3 g0 g1 g2 g3
          go_wp2_with fail
          have HL9 := Lib.hid (low_trans HL.out hk9)
          have HOB9 := Lib.hid (HOB.out.on hk9)
          have g0 := HOB9.out.cell (j := 0) (v := (.bool n.a.v6)) rfl
          have g1 := HOB9.out.cell (j := 1) (v := (.int .u64 n.a.hi)) rfl
          have g2 := HOB9.out.cell (j := 2) (v := (.int .u64 n.a.lo)) rfl
          have g3 := HOB9.out.cell (j := 3) (v := (.int .i64 n.n)) rfl
          have f0 : w9.cell? ⟨bb, o + k * 4, none⟩ = some (.bool x.a.v6) := by
            have h3 := HCF.out w9 HL9.out (j := 0) (u := (.bool x.a.v6)) rfl
            exact h3
          have f1 : w9.cell? ⟨bb, o + k * 4 + 1, none⟩ = some (.int .u64 x.a.hi) := by
            have h3 := HCF.out w9 HL9.out (j := 1) (u := (.int .u64 x.a.hi)) rfl
            exact h3
          have f2 : w9.cell? ⟨bb, o + k * 4 + 2, none⟩ = some (.int .u64 x.a.lo) := by
            have h3 := HCF.out w9 HL9.out (j := 2) (u := (.int .u64 x.a.lo)) rfl
            exact h3
          have f3 : w9.cell? ⟨bb, o + k * 4 + 3, none⟩ = some (.int .i64 x.n) := by
            have h3 := HCF.out w9 HL9.out (j := 3) (u := (.int .i64 x.n)) rfl
            exact h3
          go_quiet (fail)
          have L5 := Lib.hid (low_drewN HL9.out nq)
          go_wp2_with fail
          go_ret
          exact ⟨_, rfl, by rw [HP.out]; exact PW.out _ L5.out, L5.out⟩
        | false =>
          rw [hq] at EQ
          have HINS : Hid (putN l n = l.take k ++ n :: l.drop k) := Lib.hid (put_new hsp (fun hh => by
            have := hh.2
            rw [← HX.out, ← sameN_iff, hq] at this
            cases this))
          clear hsp hq
          go_wp2_with fail
          refine Cls.region (Lows wr) (by kernel_rfl) (by kernel_rfl) (low_drewN (Below.refl _ _) 1) ?_
          (try dsimp only [List.append])
          repeat (go_big_quiet_step (first | fail | (with_reducible exact Cls.call ((lows_call KCM).out _ (Cls.h _)))))
          refine wpQuiet_nil ?_
          intro n9
          have hk9 := n9.h
          generalize n9.w = w9 at hk9 ⊢
          clear hne n9 f0 f1 f2 f3 g0 g1 g2 g3
          go_wp2_with fail
          have HL9 := Lib.hid (low_trans HL.out hk9)
          have HOB9 := Lib.hid (HOB.out.on hk9)
          have g0 := HOB9.out.cell (j := 0) (v := (.bool n.a.v6)) rfl
          have g1 := HOB9.out.cell (j := 1) (v := (.int .u64 n.a.hi)) rfl
          have g2 := HOB9.out.cell (j := 2) (v := (.int .u64 n.a.lo)) rfl
          have g3 := HOB9.out.cell (j := 3) (v := (.int .i64 n.n)) rfl
          have f0 : w9.cell? ⟨bb, o + k * 4, none⟩ = some (.bool x.a.v6) := by
            have h3 := HCF.out w9 HL9.out (j := 0) (u := (.bool x.a.v6)) rfl
            exact h3
          have f1 : w9.cell? ⟨bb, o + k * 4 + 1, none⟩ = some (.int .u64 x.a.hi) := by
            have h3 := HCF.out w9 HL9.out (j := 1) (u := (.int .u64 x.a.hi)) rfl
            exact h3
          have f2 : w9.cell? ⟨bb, o + k * 4 + 2, none⟩ = some (.int .u64 x.a.lo) := by
            have h3 := HCF.out w9 HL9.out (j := 2) (u := (.int .u64 x.a.lo)) rfl
            exact h3
          have f3 : w9.cell? ⟨bb, o + k * 4 + 3, none⟩ = some (.int .i64 x.n) := by
            have h3 := HCF.out w9 HL9.out (j := 3) (u := (.int .i64 x.n)) rfl
            exact h3
          go_quiet (fail)
          have OB5 := Lib.hid (HOB9.out.drewN nq)
          have L5 := Lib.hid (low_drewN HL9.out nq)
          generalize w9.drewN nq = w5 at OB5 L5 ⊢
          have hi7 : ¬ c = k := by omega
          clear HC HNIL HOK HNO KCM HX HM HS hd hcd hc0 EQ HCF HR HL9 HOB9 HL HOB hk9 g0 g1 g2 g3 f0 f1 f2 f3
          go_wp2_with fail
          have HA1 : Hid (∀ W g, OwnM w5.heap.size W (.slice (some ⟨g, 0, none⟩) 0 0) [] → Lows w5 W → ∃ v1 w1, (Builtin.append_ #[29, 29] 29 #[.slice (some ⟨g, 0, none⟩) 0 0, .slice (some ⟨bb, o, none⟩) k c]).run Try.prog W = .ok v1 w1 ∧ (OwnM w5.heap.size w1 v1 (l.take k) ∧ Lows w5 w1 ∧ ∀ kk vs, kk ≠ g → Blk W kk 40 vs → Blk w1 kk 40 vs)) := Lib.hid fun W g ho hW => by
            obtain ⟨v1, w1, h1, h2, h3, h4⟩ := append_Ms ho ((PW.out _ (low_trans L5.out hW)).part (i := k) (by omega) : Nets W (.slice (some ⟨bb, o, none⟩) k c) (l.take k)) (by simp <;> omega) hW.size
            refine ⟨v1, w1, h1, by simpa using h2, hW.trans h3, fun kk vs hkk hb => (h4 kk hb.lt (by simp [Value.ownBlock]; exact hkk)).trans hb⟩
          have HA2 : Hid (∀ W u g, OwnM w5.heap.size W u (l.take k) → Blk W g 40 [.bool n.a.v6, .int .u64 n.a.hi, .int .u64 n.a.lo, .int .i64 n.n] → Lows w5 W → ∃ v1 w1, (Builtin.append_ #[29, 29] 29 #[u, .slice (some ⟨g, 0, none⟩) 1 1]).run Try.prog W = .ok v1 w1 ∧ (OwnM w5.heap.size w1 v1 (l.take k ++ [n]) ∧ Lows w5 w1)) := Lib.hid fun W u g ho hb hW => by
            have hP : Nets W (.slice (some ⟨g, 0, none⟩) 1 1) [n] := Blk.reads (m := 1) encM_len hb (by rfl) rfl (Nat.le_refl _)
            obtain ⟨v1, w1, h1, h2, h3⟩ := append_M3 ho hP (by simp <;> omega) hW.size
            exact ⟨v1, w1, h1, h2, hW.trans h3⟩
          have HA3 : Hid (∀ W u, OwnM w5.heap.size W u (l.take k ++ [n]) → Lows w5 W → ∃ v1 w1, (Builtin.append_ #[29, 29] 29 #[u, .slice (some ⟨bb, o + k * 4, none⟩) (l.length - k) (c - k)]).run Try.prog W = .ok v1 w1 ∧ (Nets w1 v1 (putN l n) ∧ Lows w5 w1)) := Lib.hid fun W u ho hW => by
            obtain ⟨v1, w1, h1, h2, h3⟩ := append_M3 ho ((PW.out _ (low_trans L5.out hW)).rest (by omega) : Nets W (.slice (some ⟨bb, o + k * 4, none⟩) (l.length - k) (c - k)) (l.drop k)) (by simp <;> omega) hW.size
            exact ⟨v1, w1, h1, by rw [HINS.out]; have := ownM_nets h2; simpa using this, hW.trans h3⟩
          have hgw : w.heap.size < w5.heap.size := OB5.out.lt
          have hgx : ¬ w.heap.size = w5.heap.size := by omega
          have hgy : ¬ w.heap.size = w5.heap.size + 1 := by omega
          have p0 := OB5.out.cell (j := 0) (v := (.bool n.a.v6)) rfl
          have p1 := OB5.out.cell (j := 1) (v := (.int .u64 n.a.hi)) rfl
          have p2 := OB5.out.cell (j := 2) (v := (.int .u64 n.a.lo)) rfl
          have p3 := OB5.out.cell (j := 3) (v := (.int .i64 n.n)) rfl
          clear PW
          go_upto_region 6 with fail
          go_region_law (first
            | (refine step_append_ex rfl (.tmp 35) (.tmp 38) _ _ rfl rfl _ _ (by first | rfl | simp [Act.eval]) (by first | rfl | simp [Act.eval]) (HA1.out _ _ (by repeat (first | (with_reducible exact ownM_nil_at _ _ (by first | rfl | (simp; done)) (by first | exact Nat.le_refl _ | (simp; done) | (simp; omega))) | (with_reducible refine ownM_drew ?_) | (with_reducible refine ownM_alloc ?_ _))) (by repeat (first | (with_reducible exact Lows.self _) | (with_reducible assumption) | (with_reducible refine Lows.drew ?_) | (with_reducible refine Lows.alloc ?_ _)))) ?_; rintro v1 w6 ⟨ho1, hl1, hk1⟩
               have OBa := OB5.out.on hl1
               have hga : w.heap.size < w6.heap.size := OBa.lt
               have hgb : ¬ w.heap.size = w6.heap.size := by omega
               have p0 := OBa.cell (j := 0) (v := (.bool n.a.v6)) rfl
               have p1 := OBa.cell (j := 1) (v := (.int .u64 n.a.hi)) rfl
               have p2 := OBa.cell (j := 2) (v := (.int .u64 n.a.lo)) rfl
               have p3 := OBa.cell (j := 3) (v := (.int .i64 n.n)) rfl
               clear OBa)
            | (refine step_append_ex rfl (.tmp 39) (.tmp 41) _ _ rfl rfl _ _ (by first | rfl | simp [Act.eval]) (by first | rfl | simp [Act.eval]) (HA2.out _ v1 _ (by repeat (first | (with_reducible exact ho1) | (with_reducible refine ownM_drew ?_) | (with_reducible refine ownM_alloc ?_ _))) (by repeat (first | (with_reducible exact blkN_at _ _ (by first | rfl | (simp; done)) rfl) | (with_reducible refine hk1 _ _ (by first | (simp; done) | (simp; omega)) ?_) | (with_reducible refine Blk.drew ?_) | (with_reducible refine Blk.alloc ?_ _))) (by repeat (first | (with_reducible exact Lows.self _) | (with_reducible assumption) | (with_reducible refine Lows.drew ?_) | (with_reducible refine Lows.alloc ?_ _)))) ?_; rintro v2 w7 ⟨ho2, hl2⟩))
          all_goals
            obtain ⟨v3, w8, R3, hb3, hl3⟩ := HA3.out w7 v2 ho2 hl2
            have R4 := Lib.hid R3
            have HB3 := Lib.hid hb3
            have L8 := Lib.hid (low_trans L5.out hl3)
            clear HA1 HA2 HA3 OB5 L5 ho2 hl2 ho1 hl1 hk1 R3 hb3 hl3
            go_wp2_with (first
              | (at_builtin; refine wpList_append_run rfl (.tmp 43) (.tmp 46) _ _ rfl rfl _ _ _ _ rfl rfl R4.out ?_)
              | fail)
            exact bodyPost_ret (results_tmp rfl _ _ _) rfl ⟨v3, rfl, HB3.out, L8.out⟩
    · have hltz : ¬ (k : Int) < (l.length : Int) := by omega
      have hd : decide (k < l.length) = false := decide_eq_false hlt
      have hke : k = l.length := by omega
      have hsp : spotN l n = k := spot_is hk HM.out (fun h => absurd h hlt)
      have HINS : Hid (putN l n = l.take k ++ n :: l.drop k) := Lib.hid (put_new hsp (fun hh => hlt hh.1))
      clear hsp
      go_wp2_with fail
      refine Cls.region (Lows wr) (by kernel_rfl) (by kernel_rfl) (low_drewN (Below.refl _ _) 1) ?_
      (try dsimp only [List.append])
      repeat (go_big_quiet_step (first | fail))
      refine wpQuiet_nil ?_
      intro n9
      have hk9 := n9.h
      generalize n9.w = w9 at hk9 ⊢
      clear hne n9 
      go_wp2_with fail
      have HL9 := Lib.hid (low_trans HL.out hk9)
      have HOB9 := Lib.hid (HOB.out.on hk9)
      have g0 := HOB9.out.cell (j := 0) (v := (.bool n.a.v6)) rfl
      have g1 := HOB9.out.cell (j := 1) (v := (.int .u64 n.a.hi)) rfl
      have g2 := HOB9.out.cell (j := 2) (v := (.int .u64 n.a.lo)) rfl
      have g3 := HOB9.out.cell (j := 3) (v := (.int .i64 n.n)) rfl
      go_quiet (fail)
      have OB5 := Lib.hid (HOB9.out.drewN nq)
      have L5 := Lib.hid (low_drewN HL9.out nq)
      generalize w9.drewN nq = w5 at OB5 L5 ⊢
      clear HOK HNO HM HS hd HL9 HOB9 HL HOB hk9 g0 g1 g2 g3
      go_wp2_with fail
      cases A with
      | none =>
        obtain rfl := HNIL.out rfl
        have h0 : l.length = 0 := by omega
        obtain rfl : l = [] := List.eq_nil_of_length_eq_zero h0
        obtain rfl : k = 0 := by omega
        clear HC HNIL h0 hke hlt hltz
        simp only [List.length_nil, Int.natCast_zero] at *
        have HA1 : Hid (∀ W g, OwnM w5.heap.size W (.slice (some ⟨g, 0, none⟩) 0 0) [] → Lows w5 W → ∃ v1 w1, (Builtin.append_ #[29, 29] 29 #[.slice (some ⟨g, 0, none⟩) 0 0, .slice none 0 0]).run Try.prog W = .ok v1 w1 ∧ (OwnM w5.heap.size w1 v1 (([] : List Net).take 0) ∧ Lows w5 w1 ∧ ∀ kk vs, kk ≠ g → Blk W kk 40 vs → Blk w1 kk 40 vs)) := Lib.hid fun W g ho hW => by
          obtain ⟨v1, w1, h1, h2, h3, h4⟩ := append_Ms ho (Recs.nil _ _ _ : Nets W (.slice none 0 0) (([] : List Net).take 0)) (by simp <;> omega) hW.size
          refine ⟨v1, w1, h1, by simpa using h2, hW.trans h3, fun kk vs hkk hb => (h4 kk hb.lt (by simp [Value.ownBlock]; exact hkk)).trans hb⟩
        have HA2 : Hid (∀ W u g, OwnM w5.heap.size W u (([] : List Net).take 0) → Blk W g 40 [.bool n.a.v6, .int .u64 n.a.hi, .int .u64 n.a.lo, .int .i64 n.n] → Lows w5 W → ∃ v1 w1, (Builtin.append_ #[29, 29] 29 #[u, .slice (some ⟨g, 0, none⟩) 1 1]).run Try.prog W = .ok v1 w1 ∧ (OwnM w5.heap.size w1 v1 (([] : List Net).take 0 ++ [n]) ∧ Lows w5 w1)) := Lib.hid fun W u g ho hb hW => by
          have hP : Nets W (.slice (some ⟨g, 0, none⟩) 1 1) [n] := Blk.reads (m := 1) encM_len hb (by rfl) rfl (Nat.le_refl _)
          obtain ⟨v1, w1, h1, h2, h3⟩ := append_M3 ho hP (by simp <;> omega) hW.size
          exact ⟨v1, w1, h1, h2, hW.trans h3⟩
        have HA3 : Hid (∀ W u, OwnM w5.heap.size W u (([] : List Net).take 0 ++ [n]) → Lows w5 W → ∃ v1 w1, (Builtin.append_ #[29, 29] 29 #[u, .slice none 0 0]).run Try.prog W = .ok v1 w1 ∧ (Nets w1 v1 (putN [] n) ∧ Lows w5 w1)) := Lib.hid fun W u ho hW => by
          obtain ⟨v1, w1, h1, h2, h3⟩ := append_M3 ho (Recs.nil _ _ _ : Nets W (.slice none 0 0) (([] : List Net).drop 0)) (by simp <;> omega) hW.size
          exact ⟨v1, w1, h1, by rw [HINS.out]; have := ownM_nets h2; simpa using this, hW.trans h3⟩
        have hgw : w.heap.size < w5.heap.size := OB5.out.lt
        have hgx : ¬ w.heap.size = w5.heap.size := by omega
        have hgy : ¬ w.heap.size = w5.heap.size + 1 := by omega
        have p0 := OB5.out.cell (j := 0) (v := (.bool n.a.v6)) rfl
        have p1 := OB5.out.cell (j := 1) (v := (.int .u64 n.a.hi)) rfl
        have p2 := OB5.out.cell (j := 2) (v := (.int .u64 n.a.lo)) rfl
        have p3 := OB5.out.cell (j := 3) (v := (.int .i64 n.n)) rfl
        clear PW
        go_upto_region 6 with fail
        go_region_law (first
          | (refine step_append_ex rfl (.tmp 35) (.tmp 38) _ _ rfl rfl _ _ (by first | rfl | simp [Act.eval]) (by first | rfl | simp [Act.eval]) (HA1.out _ _ (by repeat (first | (with_reducible exact ownM_nil_at _ _ (by first | rfl | (simp; done)) (by first | exact Nat.le_refl _ | (simp; done) | (simp; omega))) | (with_reducible refine ownM_drew ?_) | (with_reducible refine ownM_alloc ?_ _))) (by repeat (first | (with_reducible exact Lows.self _) | (with_reducible assumption) | (with_reducible refine Lows.drew ?_) | (with_reducible refine Lows.alloc ?_ _)))) ?_; rintro v1 w6 ⟨ho1, hl1, hk1⟩
             have OBa := OB5.out.on hl1
             have hga : w.heap.size < w6.heap.size := OBa.lt
             have hgb : ¬ w.heap.size = w6.heap.size := by omega
             have p0 := OBa.cell (j := 0) (v := (.bool n.a.v6)) rfl
             have p1 := OBa.cell (j := 1) (v := (.int .u64 n.a.hi)) rfl
             have p2 := OBa.cell (j := 2) (v := (.int .u64 n.a.lo)) rfl
             have p3 := OBa.cell (j := 3) (v := (.int .i64 n.n)) rfl
             clear OBa)
          | (refine step_append_ex rfl (.tmp 39) (.tmp 41) _ _ rfl rfl _ _ (by first | rfl | simp [Act.eval]) (by first | rfl | simp [Act.eval]) (HA2.out _ v1 _ (by repeat (first | (with_reducible exact ho1) | (with_reducible refine ownM_drew ?_) | (with_reducible refine ownM_alloc ?_ _))) (by repeat (first | (with_reducible exact blkN_at _ _ (by first | rfl | (simp; done)) rfl) | (with_reducible refine hk1 _ _ (by first | (simp; done) | (simp; omega)) ?_) | (with_reducible refine Blk.drew ?_) | (with_reducible refine Blk.alloc ?_ _))) (by repeat (first | (with_reducible exact Lows.self _) | (with_reducible assumption) | (with_reducible refine Lows.drew ?_) | (with_reducible refine Lows.alloc ?_ _)))) ?_; rintro v2 w7 ⟨ho2, hl2⟩))
        all_goals
          obtain ⟨v3, w8, R3, hb3, hl3⟩ := HA3.out w7 v2 ho2 hl2
          have R4 := Lib.hid R3
          have HB3 := Lib.hid hb3
          have L8 := Lib.hid (low_trans L5.out hl3)
          clear HA1 HA2 HA3 OB5 L5 ho2 hl2 ho1 hl1 hk1 R3 hb3 hl3
          go_wp2_with (first
            | (at_builtin; refine wpList_append_run rfl (.tmp 43) (.tmp 46) _ _ rfl rfl _ _ _ _ rfl rfl R4.out ?_)
            | fail)
          exact bodyPost_ret (results_tmp rfl _ _ _) rfl ⟨v3, rfl, HB3.out, L8.out⟩
      | some a =>
        by_cases h0 : l.length = 0
        · obtain rfl : l = [] := List.eq_nil_of_length_eq_zero h0
          obtain rfl : k = 0 := by omega
          obtain ⟨bb, o, q⟩ := a
          clear HC HNIL h0 hke hlt hltz
          by_cases hc0 : c = 0
          · subst hc0
            have HA1 : Hid (∀ W g, OwnM w5.heap.size W (.slice (some ⟨g, 0, none⟩) 0 0) [] → Lows w5 W → ∃ v1 w1, (Builtin.append_ #[29, 29] 29 #[.slice (some ⟨g, 0, none⟩) 0 0, .slice (some ⟨bb, o, q⟩) 0 0]).run Try.prog W = .ok v1 w1 ∧ (OwnM w5.heap.size w1 v1 (([] : List Net).take 0) ∧ Lows w5 w1 ∧ ∀ kk vs, kk ≠ g → Blk W kk 40 vs → Blk w1 kk 40 vs)) := Lib.hid fun W g ho hW => by
              obtain ⟨v1, w1, h1, h2, h3, h4⟩ := append_Ms ho (Recs.void _ _ _ _ (fun h => by cases h) : Nets W (.slice (some ⟨bb, o, q⟩) 0 0) (([] : List Net).take 0)) (by simp <;> omega) hW.size
              refine ⟨v1, w1, h1, by simpa using h2, hW.trans h3, fun kk vs hkk hb => (h4 kk hb.lt (by simp [Value.ownBlock]; exact hkk)).trans hb⟩
            have HA2 : Hid (∀ W u g, OwnM w5.heap.size W u (([] : List Net).take 0) → Blk W g 40 [.bool n.a.v6, .int .u64 n.a.hi, .int .u64 n.a.lo, .int .i64 n.n] → Lows w5 W → ∃ v1 w1, (Builtin.append_ #[29, 29] 29 #[u, .slice (some ⟨g, 0, none⟩) 1 1]).run Try.prog W = .ok v1 w1 ∧ (OwnM w5.heap.size w1 v1 (([] : List Net).take 0 ++ [n]) ∧ Lows w5 w1)) := Lib.hid fun W u g ho hb hW => by
              have hP : Nets W (.slice (some ⟨g, 0, none⟩) 1 1) [n] := Blk.reads (m := 1) encM_len hb (by rfl) rfl (Nat.le_refl _)
              obtain ⟨v1, w1, h1, h2, h3⟩ := append_M3 ho hP (by simp <;> omega) hW.size
              exact ⟨v1, w1, h1, h2, hW.trans h3⟩
            have HA3 : Hid (∀ W u, OwnM w5.heap.size W u (([] : List Net).take 0 ++ [n]) → Lows w5 W → ∃ v1 w1, (Builtin.append_ #[29, 29] 29 #[u, .slice (some ⟨bb, o, q⟩) 0 0]).run Try.prog W = .ok v1 w1 ∧ (Nets w1 v1 (putN [] n) ∧ Lows w5 w1)) := Lib.hid fun W u ho hW => by
              obtain ⟨v1, w1, h1, h2, h3⟩ := append_M3 ho (Recs.void _ _ _ _ (fun h => by cases h) : Nets W (.slice (some ⟨bb, o, q⟩) 0 0) (([] : List Net).drop 0)) (by simp <;> omega) hW.size
              exact ⟨v1, w1, h1, by rw [HINS.out]; have := ownM_nets h2; simpa using this, hW.trans h3⟩
            have hgw : w.heap.size < w5.heap.size := OB5.out.lt
            have hgx : ¬ w.heap.size = w5.heap.size := by omega
            have hgy : ¬ w.heap.size = w5.heap.size + 1 := by omega
            have p0 := OB5.out.cell (j := 0) (v := (.bool n.a.v6)) rfl
            have p1 := OB5.out.cell (j := 1) (v := (.int .u64 n.a.hi)) rfl
            have p2 := OB5.out.cell (j := 2) (v := (.int .u64 n.a.lo)) rfl
            have p3 := OB5.out.cell (j := 3) (v := (.int .i64 n.n)) rfl
            clear PW
            go_upto_region 6 with fail
            go_region_law (first
              | (refine step_append_ex rfl (.tmp 35) (.tmp 38) _ _ rfl rfl _ _ (by first | rfl | simp [Act.eval]) (by first | rfl | simp [Act.eval]) (HA1.out _ _ (by repeat (first | (with_reducible exact ownM_nil_at _ _ (by first | rfl | (simp; done)) (by first | exact Nat.le_refl _ | (simp; done) | (simp; omega))) | (with_reducible refine ownM_drew ?_) | (with_reducible refine ownM_alloc ?_ _))) (by repeat (first | (with_reducible exact Lows.self _) | (with_reducible assumption) | (with_reducible refine Lows.drew ?_) | (with_reducible refine Lows.alloc ?_ _)))) ?_; rintro v1 w6 ⟨ho1, hl1, hk1⟩
                 have OBa := OB5.out.on hl1
                 have hga : w.heap.size < w6.heap.size := OBa.lt
                 have hgb : ¬ w.heap.size = w6.heap.size := by omega
                 have p0 := OBa.cell (j := 0) (v := (.bool n.a.v6)) rfl
                 have p1 := OBa.cell (j := 1) (v := (.int .u64 n.a.hi)) rfl
                 have p2 := OBa.cell (j := 2) (v := (.int .u64 n.a.lo)) rfl
                 have p3 := OBa.cell (j := 3) (v := (.int .i64 n.n)) rfl
                 clear OBa)
              | (refine step_append_ex rfl (.tmp 39) (.tmp 41) _ _ rfl rfl _ _ (by first | rfl | simp [Act.eval]) (by first | rfl | simp [Act.eval]) (HA2.out _ v1 _ (by repeat (first | (with_reducible exact ho1) | (with_reducible refine ownM_drew ?_) | (with_reducible refine ownM_alloc ?_ _))) (by repeat (first | (with_reducible exact blkN_at _ _ (by first | rfl | (simp; done)) rfl) | (with_reducible refine hk1 _ _ (by first | (simp; done) | (simp; omega)) ?_) | (with_reducible refine Blk.drew ?_) | (with_reducible refine Blk.alloc ?_ _))) (by repeat (first | (with_reducible exact Lows.self _) | (with_reducible assumption) | (with_reducible refine Lows.drew ?_) | (with_reducible refine Lows.alloc ?_ _)))) ?_; rintro v2 w7 ⟨ho2, hl2⟩))
            all_goals
              obtain ⟨v3, w8, R3, hb3, hl3⟩ := HA3.out w7 v2 ho2 hl2
              have R4 := Lib.hid R3
              have HB3 := Lib.hid hb3
              have L8 := Lib.hid (low_trans L5.out hl3)
              clear HA1 HA2 HA3 OB5 L5 ho2 hl2 ho1 hl1 hk1 R3 hb3 hl3
              go_wp2_with (first
                | (at_builtin; refine wpList_append_run rfl (.tmp 43) (.tmp 46) _ _ rfl rfl _ _ _ _ rfl rfl R4.out ?_)
                | fail)
              exact bodyPost_ret (results_tmp rfl _ _ _) rfl ⟨v3, rfl, HB3.out, L8.out⟩
          · have hi7 := hc0
            have HA1 : Hid (∀ W g, OwnM w5.heap.size W (.slice (some ⟨g, 0, none⟩) 0 0) [] → Lows w5 W → ∃ v1 w1, (Builtin.append_ #[29, 29] 29 #[.slice (some ⟨g, 0, none⟩) 0 0, .slice (some ⟨bb, o, q⟩) 0 c]).run Try.prog W = .ok v1 w1 ∧ (OwnM w5.heap.size w1 v1 (([] : List Net).take 0) ∧ Lows w5 w1 ∧ ∀ kk vs, kk ≠ g → Blk W kk 40 vs → Blk w1 kk 40 vs)) := Lib.hid fun W g ho hW => by
              obtain ⟨v1, w1, h1, h2, h3, h4⟩ := append_Ms ho (Recs.void _ _ _ _ (fun h => by cases h) : Nets W (.slice (some ⟨bb, o, q⟩) 0 c) (([] : List Net).take 0)) (by simp <;> omega) hW.size
              refine ⟨v1, w1, h1, by simpa using h2, hW.trans h3, fun kk vs hkk hb => (h4 kk hb.lt (by simp [Value.ownBlock]; exact hkk)).trans hb⟩
            have HA2 : Hid (∀ W u g, OwnM w5.heap.size W u (([] : List Net).take 0) → Blk W g 40 [.bool n.a.v6, .int .u64 n.a.hi, .int .u64 n.a.lo, .int .i64 n.n] → Lows w5 W → ∃ v1 w1, (Builtin.append_ #[29, 29] 29 #[u, .slice (some ⟨g, 0, none⟩) 1 1]).run Try.prog W = .ok v1 w1 ∧ (OwnM w5.heap.size w1 v1 (([] : List Net).take 0 ++ [n]) ∧ Lows w5 w1)) := Lib.hid fun W u g ho hb hW => by
              have hP : Nets W (.slice (some ⟨g, 0, none⟩) 1 1) [n] := Blk.reads (m := 1) encM_len hb (by rfl) rfl (Nat.le_refl _)
              obtain ⟨v1, w1, h1, h2, h3⟩ := append_M3 ho hP (by simp <;> omega) hW.size
              exact ⟨v1, w1, h1, h2, hW.trans h3⟩
            have HA3 : Hid (∀ W u, OwnM w5.heap.size W u (([] : List Net).take 0 ++ [n]) → Lows w5 W → ∃ v1 w1, (Builtin.append_ #[29, 29] 29 #[u, .slice (some ⟨bb, o, q⟩) 0 c]).run Try.prog W = .ok v1 w1 ∧ (Nets w1 v1 (putN [] n) ∧ Lows w5 w1)) := Lib.hid fun W u ho hW => by
              obtain ⟨v1, w1, h1, h2, h3⟩ := append_M3 ho (Recs.void _ _ _ _ (fun h => by cases h) : Nets W (.slice (some ⟨bb, o, q⟩) 0 c) (([] : List Net).drop 0)) (by simp <;> omega) hW.size
              exact ⟨v1, w1, h1, by rw [HINS.out]; have := ownM_nets h2; simpa using this, hW.trans h3⟩
            have hgw : w.heap.size < w5.heap.size := OB5.out.lt
            have hgx : ¬ w.heap.size = w5.heap.size := by omega
            have hgy : ¬ w.heap.size = w5.heap.size + 1 := by omega
            have p0 := OB5.out.cell (j := 0) (v := (.bool n.a.v6)) rfl
            have p1 := OB5.out.cell (j := 1) (v := (.int .u64 n.a.hi)) rfl
            have p2 := OB5.out.cell (j := 2) (v := (.int .u64 n.a.lo)) rfl
            have p3 := OB5.out.cell (j := 3) (v := (.int .i64 n.n)) rfl
            clear PW
            go_upto_region 6 with fail
            go_region_law (first
              | (refine step_append_ex rfl (.tmp 35) (.tmp 38) _ _ rfl rfl _ _ (by first | rfl | simp [Act.eval]) (by first | rfl | simp [Act.eval]) (HA1.out _ _ (by repeat (first | (with_reducible exact ownM_nil_at _ _ (by first | rfl | (simp; done)) (by first | exact Nat.le_refl _ | (simp; done) | (simp; omega))) | (with_reducible refine ownM_drew ?_) | (with_reducible refine ownM_alloc ?_ _))) (by repeat (first | (with_reducible exact Lows.self _) | (with_reducible assumption) | (with_reducible refine Lows.drew ?_) | (with_reducible refine Lows.alloc ?_ _)))) ?_; rintro v1 w6 ⟨ho1, hl1, hk1⟩
                 have OBa := OB5.out.on hl1
                 have hga : w.heap.size < w6.heap.size := OBa.lt
                 have hgb : ¬ w.heap.size = w6.heap.size := by omega
                 have p0 := OBa.cell (j := 0) (v := (.bool n.a.v6)) rfl
                 have p1 := OBa.cell (j := 1) (v := (.int .u64 n.a.hi)) rfl
                 have p2 := OBa.cell (j := 2) (v := (.int .u64 n.a.lo)) rfl
                 have p3 := OBa.cell (j := 3) (v := (.int .i64 n.n)) rfl
                 clear OBa)
              | (refine step_append_ex rfl (.tmp 39) (.tmp 41) _ _ rfl rfl _ _ (by first | rfl | simp [Act.eval]) (by first | rfl | simp [Act.eval]) (HA2.out _ v1 _ (by repeat (first | (with_reducible exact ho1) | (with_reducible refine ownM_drew ?_) | (with_reducible refine ownM_alloc ?_ _))) (by repeat (first | (with_reducible exact blkN_at _ _ (by first | rfl | (simp; done)) rfl) | (with_reducible refine hk1 _ _ (by first | (simp; done) | (simp; omega)) ?_) | (with_reducible refine Blk.drew ?_) | (with_reducible refine Blk.alloc ?_ _))) (by repeat (first | (with_reducible exact Lows.self _) | (with_reducible assumption) | (with_reducible refine Lows.drew ?_) | (with_reducible refine Lows.alloc ?_ _)))) ?_; rintro v2 w7 ⟨ho2, hl2⟩))
            all_goals
              obtain ⟨v3, w8, R3, hb3, hl3⟩ := HA3.out w7 v2 ho2 hl2
              have R4 := Lib.hid R3
              have HB3 := Lib.hid hb3
              have L8 := Lib.hid (low_trans L5.out hl3)
              clear HA1 HA2 HA3 OB5 L5 ho2 hl2 ho1 hl1 hk1 R3 hb3 hl3
              go_wp2_with (first
                | (at_builtin; refine wpList_append_run rfl (.tmp 43) (.tmp 46) _ _ rfl rfl _ _ _ _ rfl rfl R4.out ?_)
                | fail)
              exact bodyPost_ret (results_tmp rfl _ _ _) rfl ⟨v3, rfl, HB3.out, L8.out⟩
        · obtain ⟨bb, o, hae, _, _⟩ := HC.out (by omega)
          obtain rfl := Option.some.inj hae
          clear HC HNIL h0 hae hltz
          by_cases hce : c = k
          · have hil : l.length = k := hke.symm
            clear hke hlt
            have HA1 : Hid (∀ W g, OwnM w5.heap.size W (.slice (some ⟨g, 0, none⟩) 0 0) [] → Lows w5 W → ∃ v1 w1, (Builtin.append_ #[29, 29] 29 #[.slice (some ⟨g, 0, none⟩) 0 0, .slice (some ⟨bb, o, none⟩) k c]).run Try.prog W = .ok v1 w1 ∧ (OwnM w5.heap.size w1 v1 (l.take k) ∧ Lows w5 w1 ∧ ∀ kk vs, kk ≠ g → Blk W kk 40 vs → Blk w1 kk 40 vs)) := Lib.hid fun W g ho hW => by
              obtain ⟨v1, w1, h1, h2, h3, h4⟩ := append_Ms ho ((PW.out _ (low_trans L5.out hW)).part (i := k) (by omega) : Nets W (.slice (some ⟨bb, o, none⟩) k c) (l.take k)) (by simp <;> omega) hW.size
              refine ⟨v1, w1, h1, by simpa using h2, hW.trans h3, fun kk vs hkk hb => (h4 kk hb.lt (by simp [Value.ownBlock]; exact hkk)).trans hb⟩
            have HA2 : Hid (∀ W u g, OwnM w5.heap.size W u (l.take k) → Blk W g 40 [.bool n.a.v6, .int .u64 n.a.hi, .int .u64 n.a.lo, .int .i64 n.n] → Lows w5 W → ∃ v1 w1, (Builtin.append_ #[29, 29] 29 #[u, .slice (some ⟨g, 0, none⟩) 1 1]).run Try.prog W = .ok v1 w1 ∧ (OwnM w5.heap.size w1 v1 (l.take k ++ [n]) ∧ Lows w5 w1)) := Lib.hid fun W u g ho hb hW => by
              have hP : Nets W (.slice (some ⟨g, 0, none⟩) 1 1) [n] := Blk.reads (m := 1) encM_len hb (by rfl) rfl (Nat.le_refl _)
              obtain ⟨v1, w1, h1, h2, h3⟩ := append_M3 ho hP (by simp <;> omega) hW.size
              exact ⟨v1, w1, h1, h2, hW.trans h3⟩
            have HA3 : Hid (∀ W u, OwnM w5.heap.size W u (l.take k ++ [n]) → Lows w5 W → ∃ v1 w1, (Builtin.append_ #[29, 29] 29 #[u, .slice (some ⟨bb, o, none⟩) 0 0]).run Try.prog W = .ok v1 w1 ∧ (Nets w1 v1 (putN l n) ∧ Lows w5 w1)) := Lib.hid fun W u ho hW => by
              obtain ⟨v1, w1, h1, h2, h3⟩ := append_M3 ho (by rw [List.drop_of_length_le (by omega)]; exact Recs.void _ _ _ _ (fun h => by cases h) : Nets W (.slice (some ⟨bb, o, none⟩) 0 0) (l.drop k)) (by simp <;> omega) hW.size
              exact ⟨v1, w1, h1, by rw [HINS.out]; have := ownM_nets h2; simpa using this, hW.trans h3⟩
            have hgw : w.heap.size < w5.heap.size := OB5.out.lt
            have hgx : ¬ w.heap.size = w5.heap.size := by omega
            have hgy : ¬ w.heap.size = w5.heap.size + 1 := by omega
            have p0 := OB5.out.cell (j := 0) (v := (.bool n.a.v6)) rfl
            have p1 := OB5.out.cell (j := 1) (v := (.int .u64 n.a.hi)) rfl
            have p2 := OB5.out.cell (j := 2) (v := (.int .u64 n.a.lo)) rfl
            have p3 := OB5.out.cell (j := 3) (v := (.int .i64 n.n)) rfl
            clear PW
            subst hce
            go_upto_region 6 with fail
            go_region_law (first
              | (refine step_append_ex rfl (.tmp 35) (.tmp 38) _ _ rfl rfl _ _ (by first | rfl | simp [Act.eval]) (by first | rfl | simp [Act.eval]) (HA1.out _ _ (by repeat (first | (with_reducible exact ownM_nil_at _ _ (by first | rfl | (simp; done)) (by first | exact Nat.le_refl _ | (simp; done) | (simp; omega))) | (with_reducible refine ownM_drew ?_) | (with_reducible refine ownM_alloc ?_ _))) (by repeat (first | (with_reducible exact Lows.self _) | (with_reducible assumption) | (with_reducible refine Lows.drew ?_) | (with_reducible refine Lows.alloc ?_ _)))) ?_; rintro v1 w6 ⟨ho1, hl1, hk1⟩
                 have OBa := OB5.out.on hl1
                 have hga : w.heap.size < w6.heap.size := OBa.lt
                 have hgb : ¬ w.heap.size = w6.heap.size := by omega
                 have p0 := OBa.cell (j := 0) (v := (.bool n.a.v6)) rfl
                 have p1 := OBa.cell (j := 1) (v := (.int .u64 n.a.hi)) rfl
                 have p2 := OBa.cell (j := 2) (v := (.int .u64 n.a.lo)) rfl
                 have p3 := OBa.cell (j := 3) (v := (.int .i64 n.n)) rfl
                 clear OBa)
              | (refine step_append_ex rfl (.tmp 39) (.tmp 41) _ _ rfl rfl _ _ (by first | rfl | simp [Act.eval]) (by first | rfl | simp [Act.eval]) (HA2.out _ v1 _ (by repeat (first | (with_reducible exact ho1) | (with_reducible refine ownM_drew ?_) | (with_reducible refine ownM_alloc ?_ _))) (by repeat (first | (with_reducible exact blkN_at _ _ (by first | rfl | (simp; done)) rfl) | (with_reducible refine hk1 _ _ (by first | (simp; done) | (simp; omega)) ?_) | (with_reducible refine Blk.drew ?_) | (with_reducible refine Blk.alloc ?_ _))) (by repeat (first | (with_reducible exact Lows.self _) | (with_reducible assumption) | (with_reducible refine Lows.drew ?_) | (with_reducible refine Lows.alloc ?_ _)))) ?_; rintro v2 w7 ⟨ho2, hl2⟩))
            all_goals
              obtain ⟨v3, w8, R3, hb3, hl3⟩ := HA3.out w7 v2 ho2 hl2
              have R4 := Lib.hid R3
              have HB3 := Lib.hid hb3
              have L8 := Lib.hid (low_trans L5.out hl3)
              clear HA1 HA2 HA3 OB5 L5 ho2 hl2 ho1 hl1 hk1 R3 hb3 hl3
              go_wp2_with (first
                | (at_builtin; refine wpList_append_run rfl (.tmp 43) (.tmp 46) _ _ rfl rfl _ _ _ _ rfl rfl R4.out ?_)
                | fail)
              exact bodyPost_ret (results_tmp rfl _ _ _) rfl ⟨v3, rfl, HB3.out, L8.out⟩
          · have hi7 : ¬ c = k := hce
            have hil : l.length = k := hke.symm
            clear hce hlt hke
            have HA1 : Hid (∀ W g, OwnM w5.heap.size W (.slice (some ⟨g, 0, none⟩) 0 0) [] → Lows w5 W → ∃ v1 w1, (Builtin.append_ #[29, 29] 29 #[.slice (some ⟨g, 0, none⟩) 0 0, .slice (some ⟨bb, o, none⟩) k c]).run Try.prog W = .ok v1 w1 ∧ (OwnM w5.heap.size w1 v1 (l.take k) ∧ Lows w5 w1 ∧ ∀ kk vs, kk ≠ g → Blk W kk 40 vs → Blk w1 kk 40 vs)) := Lib.hid fun W g ho hW => by
              obtain ⟨v1, w1, h1, h2, h3, h4⟩ := append_Ms ho ((PW.out _ (low_trans L5.out hW)).part (i := k) (by omega) : Nets W (.slice (some ⟨bb, o, none⟩) k c) (l.take k)) (by simp <;> omega) hW.size
              refine ⟨v1, w1, h1, by simpa using h2, hW.trans h3, fun kk vs hkk hb => (h4 kk hb.lt (by simp [Value.ownBlock]; exact hkk)).trans hb⟩
            have HA2 : Hid (∀ W u g, OwnM w5.heap.size W u (l.take k) → Blk W g 40 [.bool n.a.v6, .int .u64 n.a.hi, .int .u64 n.a.lo, .int .i64 n.n] → Lows w5 W → ∃ v1 w1, (Builtin.append_ #[29, 29] 29 #[u, .slice (some ⟨g, 0, none⟩) 1 1]).run Try.prog W = .ok v1 w1 ∧ (OwnM w5.heap.size w1 v1 (l.take k ++ [n]) ∧ Lows w5 w1)) := Lib.hid fun W u g ho hb hW => by
              have hP : Nets W (.slice (some ⟨g, 0, none⟩) 1 1) [n] := Blk.reads (m := 1) encM_len hb (by rfl) rfl (Nat.le_refl _)
              obtain ⟨v1, w1, h1, h2, h3⟩ := append_M3 ho hP (by simp <;> omega) hW.size
              exact ⟨v1, w1, h1, h2, hW.trans h3⟩
            have HA3 : Hid (∀ W u, OwnM w5.heap.size W u (l.take k ++ [n]) → Lows w5 W → ∃ v1 w1, (Builtin.append_ #[29, 29] 29 #[u, .slice (some ⟨bb, o + k * 4, none⟩) 0 (c - k)]).run Try.prog W = .ok v1 w1 ∧ (Nets w1 v1 (putN l n) ∧ Lows w5 w1)) := Lib.hid fun W u ho hW => by
              obtain ⟨v1, w1, h1, h2, h3⟩ := append_M3 ho (by rw [List.drop_of_length_le (by omega)]; exact Recs.void _ _ _ _ (fun h => by cases h) : Nets W (.slice (some ⟨bb, o + k * 4, none⟩) 0 (c - k)) (l.drop k)) (by simp <;> omega) hW.size
              exact ⟨v1, w1, h1, by rw [HINS.out]; have := ownM_nets h2; simpa using this, hW.trans h3⟩
            have hgw : w.heap.size < w5.heap.size := OB5.out.lt
            have hgx : ¬ w.heap.size = w5.heap.size := by omega
            have hgy : ¬ w.heap.size = w5.heap.size + 1 := by omega
            have p0 := OB5.out.cell (j := 0) (v := (.bool n.a.v6)) rfl
            have p1 := OB5.out.cell (j := 1) (v := (.int .u64 n.a.hi)) rfl
            have p2 := OB5.out.cell (j := 2) (v := (.int .u64 n.a.lo)) rfl
            have p3 := OB5.out.cell (j := 3) (v := (.int .i64 n.n)) rfl
            clear PW
            go_upto_region 6 with fail
            go_region_law (first
              | (refine step_append_ex rfl (.tmp 35) (.tmp 38) _ _ rfl rfl _ _ (by first | rfl | simp [Act.eval]) (by first | rfl | simp [Act.eval]) (HA1.out _ _ (by repeat (first | (with_reducible exact ownM_nil_at _ _ (by first | rfl | (simp; done)) (by first | exact Nat.le_refl _ | (simp; done) | (simp; omega))) | (with_reducible refine ownM_drew ?_) | (with_reducible refine ownM_alloc ?_ _))) (by repeat (first | (with_reducible exact Lows.self _) | (with_reducible assumption) | (with_reducible refine Lows.drew ?_) | (with_reducible refine Lows.alloc ?_ _)))) ?_; rintro v1 w6 ⟨ho1, hl1, hk1⟩
                 have OBa := OB5.out.on hl1
                 have hga : w.heap.size < w6.heap.size := OBa.lt
                 have hgb : ¬ w.heap.size = w6.heap.size := by omega
                 have p0 := OBa.cell (j := 0) (v := (.bool n.a.v6)) rfl
                 have p1 := OBa.cell (j := 1) (v := (.int .u64 n.a.hi)) rfl
                 have p2 := OBa.cell (j := 2) (v := (.int .u64 n.a.lo)) rfl
                 have p3 := OBa.cell (j := 3) (v := (.int .i64 n.n)) rfl
                 clear OBa)
              | (refine step_append_ex rfl (.tmp 39) (.tmp 41) _ _ rfl rfl _ _ (by first | rfl | simp [Act.eval]) (by first | rfl | simp [Act.eval]) (HA2.out _ v1 _ (by repeat (first | (with_reducible exact ho1) | (with_reducible refine ownM_drew ?_) | (with_reducible refine ownM_alloc ?_ _))) (by repeat (first | (with_reducible exact blkN_at _ _ (by first | rfl | (simp; done)) rfl) | (with_reducible refine hk1 _ _ (by first | (simp; done) | (simp; omega)) ?_) | (with_reducible refine Blk.drew ?_) | (with_reducible refine Blk.alloc ?_ _))) (by repeat (first | (with_reducible exact Lows.self _) | (with_reducible assumption) | (with_reducible refine Lows.drew ?_) | (with_reducible refine Lows.alloc ?_ _)))) ?_; rintro v2 w7 ⟨ho2, hl2⟩))
            all_goals
              obtain ⟨v3, w8, R3, hb3, hl3⟩ := HA3.out w7 v2 ho2 hl2
              have R4 := Lib.hid R3
              have HB3 := Lib.hid hb3
              have L8 := Lib.hid (low_trans L5.out hl3)
              clear HA1 HA2 HA3 OB5 L5 ho2 hl2 ho1 hl1 hk1 R3 hb3 hl3
              go_wp2_with (first
                | (at_builtin; refine wpList_append_run rfl (.tmp 43) (.tmp 46) _ _ rfl rfl _ _ _ _ rfl rfl R4.out ?_)
                | fail)
              exact bodyPost_ret (results_tmp rfl _ _ _) rfl ⟨v3, rfl, HB3.out, L8.out⟩
end Go.Proofs.Ytbonfmjalgfgaaa.Sp
