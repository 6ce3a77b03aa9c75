/- The document's own answers for layer 19 (shield): Left, Inside; lists of bools compared. -/
import Derived.Test.YtlnbjkbbnhjkgaaRef19
namespace Go.Proofs.Ytlnbjkbbnhjkgaa.Sh
set_option maxRecDepth 100000
open Go.ChangeShapes Go.WideShapes Go.ChangeAt Go.RowKit
open Dec Words V4 V6 Ad Ci En Sat Ha Pe Stb Gr Mi Ra Go.Deep
set_option linter.unusedVariables false
set_option maxHeartbeats 8000000 in
theorem rleft_any (v : Value) (l : List Pr) (q : Qt) (s : Nat) (w : World) (h : Peers w v l) (hok : ∀ x ∈ l, x.ok) (hl : l.length ≤ 1000000) (hs : s < 18446744073709551616) :
    Calls Try.prog 14 #[v, .agg #[.int .i64 q.g, .int .i64 q.p, .int .i64 q.w, .int .i64 q.t], .int .u64 (s : Nat)] w fun e w' => ∃ u, e = .returned u ∧ NumsI w' u (leftR l q s) ∧ Below w.heap.size w w' := by
  have L0 : Hid (Lows w (w.alloc (.cells #[.int .i64 q.g, .int .i64 q.p, .int .i64 q.w, .int .i64 q.t] 24))) := Lib.hid (Lows.alloc (Lows.self w) _)
  have KS := Lib.hid (rsaved_any v l q s (w.alloc (.cells #[.int .i64 q.g, .int .i64 q.p, .int .i64 q.w, .int .i64 q.t] 24)) (h.below L0.out) hok hl hs)
  obtain ⟨A, c, rfl, hc, _, hcell⟩ := h
  have OQ := Lib.hid (Blk.new w #[.int .i64 q.g, .int .i64 q.p, .int .i64 q.w, .int .i64 q.t] 24)
  have q0 := OQ.out.cell (j := 0) rfl
  have q1 := OQ.out.cell (j := 1) rfl
  have q2 := OQ.out.cell (j := 2) rfl
  have q3 := OQ.out.cell (j := 3) rfl
  unfold leftR
  generalize savedR l q s 4 = S at KS ⊢
  clear hcell hok hs OQ
  go_enter Try.func14, Try.ntmps14
  go_wp2_with fail
  refine KS.out.mono ?_; rintro e9 w1 ⟨u, rfl, hU, hb1⟩
  have L1 := Lib.hid (low_trans L0.out hb1)
  obtain ⟨A2, c2, rfl, hc2, _, hcell2⟩ := hU
  have HC2 := Lib.hid hcell2
  have HLN : Hid ((ls l.length S).length = l.length) := Lib.hid (ls_length _ S)
  rw [ls_length]
  have N0 : Hid (OutN w1.heap.size w1.heap.size (w1.alloc (.cells #[] 3)) (.slice (some ⟨w1.heap.size, 0, none⟩) 0 0) (restR 0 S)) := Lib.hid (Or.inl ⟨rfl, rfl⟩)
  have M0 : Hid (Below w1.heap.size w1 (w1.alloc (.cells #[] 3))) := Lib.hid (Lows.alloc (Lows.self w1) _)
  have Z0 : w1.heap.size + 1 ≤ (w1.alloc (.cells #[] 3)).heap.size := by simp
  clear hb1 KS q0 q1 q2 q3 hc2 hcell2
  go_wp2_with fail
  go_loopw [8, 9] (fun vo vi wr => ∃ i : Nat, vi = .int .i64 i ∧ i ≤ l.length ∧ w1.heap.size + 1 ≤ wr.heap.size ∧ Hid (OutN w1.heap.size w1.heap.size wr vo (restR i S)) ∧ Hid (Below w1.heap.size w1 wr)) (fun _ vi _ => l.length - (intOf vi).toNat)
  case atStart => exact ⟨0, rfl, Nat.zero_le _, Z0, N0, M0⟩
  case round =>
    obtain ⟨i, rfl, hi, hz, HO, HL⟩ := hrel
    clear N0 M0 Z0
    by_cases hli : i < l.length
    · have hliz : (i : Int) < (l.length : Int) := by omega
      obtain ⟨bb, o, rfl, hb, hcc⟩ := HC2.out (by rw [HLN.out]; omega)
      have c0 := bool_at HL.out hb hcc hli
      have hlen : (restR i S).length ≤ 1000000 := by have := rest_le i S; omega
      clear hcc hb
      cases hq : S i with
      | true =>
        rw [hq] at c0
        have HY : Hid (restR (i + 1) S = restR i S) := Lib.hid (rest_yes hq)
        have HZ := Lib.hid hz
        clear hq hz
        go_wp2_with fail
        go_roundw
        case rel => exact ⟨i + 1, by go_num, by omega, HZ.out, Lib.hid (by rw [HY.out]; exact HO.out), HL⟩
        case measure => simp [intOf]; omega
      | false =>
        rw [hq] at c0
        obtain ⟨v', w', RR, HO2, hb5⟩ := append_out HO.out i hlen hz
        have R1 := Lib.hid RR
        have HO3 : Hid (OutN w1.heap.size w1.heap.size w' v' (restR (i + 1) S)) := Lib.hid (by rw [rest_no hq]; exact HO2)
        have HL3 : Hid (Below w1.heap.size w1 w') := Lib.hid (HL.out.trans (hb5.mono (Nat.le_succ _)))
        have HZ : Hid (w1.heap.size + 1 ≤ w'.heap.size) := Lib.hid (Nat.le_trans hz hb5.size)
        clear RR HO2 hb5 HO HL hq hz
        go_wp2_with (first
          | (at_builtin; refine wpList_append_run rfl (.tmp 26) (.tmp 28) _ _ rfl rfl _ _ _ _ rfl rfl R1.out ?_)
          | fail)
        go_roundw
        case rel => exact ⟨i + 1, by go_num, by omega, HZ.out, HO3, HL3⟩
        case measure => simp [intOf]; omega
    · have hliz : ¬ (i : Int) < (l.length : Int) := by omega
      have HR := Lib.hid HO.out.reads
      have HE : Hid (l.length = i) := Lib.hid (by omega)
      have HLN2 := Lib.hid (low_trans L1.out HL.out)
      clear HO
      go_wp2_with fail
      go_ret
      exact ⟨_, rfl, by rw [HE.out]; exact HR.out, HLN2.out⟩
set_option maxHeartbeats 16000000 in
theorem rinside_any (v : Value) (l : List Pr) (i : Int) (q : Qt) (s : Nat) (w : World) (h : Peers w v l) (hok : ∀ x ∈ l, x.ok) (hl : l.length ≤ 1000000) (hs : s < 18446744073709551616) :
    Calls Try.prog 8 #[v, .int .i64 i, .agg #[.int .i64 q.g, .int .i64 q.p, .int .i64 q.w, .int .i64 q.t], .int .u64 (s : Nat)] w fun e w' => e = .returned (.bool (insideR l i q s)) ∧ Below w.heap.size w w' := by
  have PW := Lib.hid h
  obtain ⟨A, c, rfl, hc, _, hcell⟩ := h
  have HC := Lib.hid hcell
  have HOK := Lib.hid hok
  have HS := Lib.hid hs
  have L0 : Hid (Lows w (w.alloc (.cells #[.int .i64 q.g, .int .i64 q.p, .int .i64 q.w, .int .i64 q.t] 24))) := Lib.hid (Lows.alloc (Lows.self w) _)
  have OQ := Lib.hid (Blk.new w #[.int .i64 q.g, .int .i64 q.p, .int .i64 q.w, .int .i64 q.t] 24)
  clear hcell hok hs
  by_cases hi0 : i < 0
  · have E : Hid (insideR l i q s = false) := Lib.hid (by unfold insideR; rw [decide_eq_false (by omega)]; rfl)
    go_enter Try.func8, Try.ntmps8
    go_wp2_with fail
    go_ret
    exact ⟨ret_b E.out.symm, L0.out⟩
  · by_cases hi1 : i < (l.length : Int)
    · obtain ⟨k, rfl⟩ : ∃ k : Nat, i = (k : Int) := ⟨i.toNat, by omega⟩
      have E : Hid (insideR l k q s = insR l k q s) := Lib.hid (by unfold insideR; rw [decide_eq_true (by omega), Int.toNat_natCast, Bool.true_and])
      have hlk : k < l.length := by omega
      have hkz : (k : Int) < (l.length : Int) := hi1
      have hkz2 : ¬ (l.length : Int) ≤ (k : Int) := by omega
      generalize insideR l k q s = II at E ⊢
      clear hi0 hi1
      go_enter Try.func8, Try.ntmps8
      go_wp2_with fail
      go_loopw [9] (fun vi wr => ∃ j b : Nat, vi = .int .i64 b ∧ b = j + 1 ∧ b ≤ 5 ∧ Hid (∀ c : Nat, 1 ≤ c → c ≤ j → inR l k q s ((c : Nat) : Int) = false) ∧ Hid (Lows (w.alloc (.cells #[.int .i64 q.g, .int .i64 q.p, .int .i64 q.w, .int .i64 q.t] 24)) wr)) (fun vi _ => 5 - (intOf vi).toNat)
      case atStart => exact ⟨0, 1, rfl, rfl, by decide, Lib.hid (fun c h1 h2 => by omega), Lib.hid (Lows.self _)⟩
      case round =>
        obtain ⟨j, b, rfl, hjb, hb5, HI, HL⟩ := hrel
        have HJB := Lib.hid hjb
        by_cases hj4 : j < 4
        · have hj4z : (b : Int) ≤ 4 := by omega
          have hb6 : b ≤ 4 := by omega
          have HB : Hid (((j + 1 : Nat) : Int) = (b : Int)) := Lib.hid (by rw [hjb])
          obtain ⟨m, hm⟩ : ∃ m, m = q.by b := ⟨_, rfl⟩
          have HM := Lib.hid hm
          have HLW : Hid (Below w.heap.size w wr) := Lib.hid (low_trans L0.out HL.out)
          obtain ⟨bb, o, rfl, hb, hcc⟩ := HC.out (by omega)
          have hne : Nonempty (Cls (Lows wr)) := ⟨⟨_, Lows.self _⟩⟩
          obtain ⟨x, hx⟩ : ∃ x, x = l[k]! := ⟨_, rfl⟩
          have hokx : x.ok := by rw [hx, getElem!_pos l k hlk]; exact HOK.out _ (List.getElem_mem _)
          have f0 : ∀ nq : Cls (Lows wr), nq.w.cell? ⟨bb, o + k * 10, none⟩ = some (.bool x.e.a.v6) := fun nq => by rw [hx]; exact peer_at (low_trans'' HLW.out nq.h) hb hcc hlk (j := 0) rfl
          have f1 : ∀ nq : Cls (Lows wr), nq.w.cell? ⟨bb, o + k * 10 + 1, none⟩ = some (.int .u64 x.e.a.hi) := fun nq => by rw [hx]; exact peer_at (low_trans'' HLW.out nq.h) hb hcc hlk (j := 1) rfl
          have f2 : ∀ nq : Cls (Lows wr), nq.w.cell? ⟨bb, o + k * 10 + 2, none⟩ = some (.int .u64 x.e.a.lo) := fun nq => by rw [hx]; exact peer_at (low_trans'' HLW.out nq.h) hb hcc hlk (j := 2) rfl
          have f3 : ∀ nq : Cls (Lows wr), nq.w.cell? ⟨bb, o + k * 10 + 3, none⟩ = some (.int .i64 x.e.n) := fun nq => by rw [hx]; exact peer_at (low_trans'' HLW.out nq.h) hb hcc hlk (j := 3) rfl
          have f4 : ∀ nq : Cls (Lows wr), nq.w.cell? ⟨bb, o + k * 10 + 4, none⟩ = some (.bool x.i) := fun nq => by rw [hx]; exact peer_at (low_trans'' HLW.out nq.h) hb hcc hlk (j := 4) rfl
          have f5 : ∀ nq : Cls (Lows wr), nq.w.cell? ⟨bb, o + k * 10 + 5, none⟩ = some (.int .i64 x.t) := fun nq => by rw [hx]; exact peer_at (low_trans'' HLW.out nq.h) hb hcc hlk (j := 5) rfl
          have f6 : ∀ nq : Cls (Lows wr), nq.w.cell? ⟨bb, o + k * 10 + 6, none⟩ = some (.int .i64 x.c.p) := fun nq => by rw [hx]; exact peer_at (low_trans'' HLW.out nq.h) hb hcc hlk (j := 6) rfl
          have f7 : ∀ nq : Cls (Lows wr), nq.w.cell? ⟨bb, o + k * 10 + 7, none⟩ = some (.int .i64 x.c.a) := fun nq => by rw [hx]; exact peer_at (low_trans'' HLW.out nq.h) hb hcc hlk (j := 7) rfl
          have f8 : ∀ nq : Cls (Lows wr), nq.w.cell? ⟨bb, o + k * 10 + 8, none⟩ = some (.int .i64 x.g) := fun nq => by rw [hx]; exact peer_at (low_trans'' HLW.out nq.h) hb hcc hlk (j := 8) rfl
          have f9 : ∀ nq : Cls (Lows wr), nq.w.cell? ⟨bb, o + k * 10 + 9, none⟩ = some (.int .i64 x.k) := fun nq => by rw [hx]; exact peer_at (low_trans'' HLW.out nq.h) hb hcc hlk (j := 9) rfl
          have Hx := Lib.hid hx
          clear hx
          have g0 : ∀ nq : Cls (Lows wr), nq.w.cell? ⟨w.heap.size, 0, none⟩ = some (.int .i64 q.g) := fun nq => Blk.in OQ (low_trans HL.out nq.h) rfl
          have g1 : ∀ nq : Cls (Lows wr), nq.w.cell? ⟨w.heap.size, 1, none⟩ = some (.int .i64 q.p) := fun nq => Blk.in OQ (low_trans HL.out nq.h) rfl
          have g2 : ∀ nq : Cls (Lows wr), nq.w.cell? ⟨w.heap.size, 2, none⟩ = some (.int .i64 q.w) := fun nq => Blk.in OQ (low_trans HL.out nq.h) rfl
          have g3 : ∀ nq : Cls (Lows wr), nq.w.cell? ⟨w.heap.size, 3, none⟩ = some (.int .i64 q.t) := fun nq => Blk.in OQ (low_trans HL.out nq.h) rfl
          have KC : Hid (∀ W, Calls Try.prog 20 #[.agg #[.bool x.e.a.v6, .int .u64 x.e.a.hi, .int .u64 x.e.a.lo, .int .i64 x.e.n, .bool x.i, .int .i64 x.t, .int .i64 x.c.p, .int .i64 x.c.a, .int .i64 x.g, .int .i64 x.k], .int .i64 b] W fun e w' => e = .returned (.bool (countsR x b)) ∧ Below W.heap.size W w') := Lib.hid fun W => rcounts_any x b W
          have KQ : Hid (∀ W, Calls Try.prog 22 #[.agg #[.int .i64 q.g, .int .i64 q.p, .int .i64 q.w, .int .i64 q.t], .int .i64 b] W fun e w' => e = .returned (.int .i64 m) ∧ Below W.heap.size W w') := Lib.hid fun W => by rw [hm]; exact rquota_any q b W
          have KR0 : Hid (∀ W, Lows wr W → Calls Try.prog 21 #[.slice (some ⟨bb, o, none⟩) l.length c, .int .i64 k, .int .i64 b, .int .u64 (s : Nat)] W fun e w' => e = .returned (.int .i64 (rankR l k b s)) ∧ Lows wr w') := Lib.hid fun W h => (rrank_any _ l k b s W (PW.out.below (low_trans'' HLW.out h)) HOK.out hl HS.out).mono fun e w' ⟨he, hb⟩ => ⟨he, low_trans h hb⟩
          have KR := KR0
          obtain ⟨RR, hRR⟩ : ∃ r, r = rankR l k b s := ⟨_, rfl⟩
          rw [← hRR] at KR
          have HR := Lib.hid hRR
          clear hcc hb hm hRR KR0 hjb hokx
          cases hq : countsR x b with
          | false =>
            rw [hq] at KC
            have HN : Hid (inR l k q s b = false) := Lib.hid (by unfold inR; rw [← Hx.out, hq]; rfl)
            clear hq KR KQ Hx
            go_wp2_with fail
            refine Cls.region (Lows wr) (by kernel_rfl) (by kernel_rfl) (low_drewN (Below.refl _ _) 1) ?_
            (try dsimp only [List.append])
            repeat (go_big_quiet_step (first | fail | (with_reducible exact Cls.call ((lows_call KC).out _ (Cls.h _)))))
            refine wpQuiet_nil ?_
            intro n9
            have hk9 := n9.h
            generalize n9.w = w9 at hk9 ⊢
            clear hne n9 f0 f1 f2 f3 f4 f5 f6 f7 f8 f9 g0 g1 g2 g3 KC
            have HLN : Hid (Lows (w.alloc (.cells #[.int .i64 q.g, .int .i64 q.p, .int .i64 q.w, .int .i64 q.t] 24)) w9) := Lib.hid (low_trans HL.out hk9)
            go_wp2_with fail
            go_roundw
            case rel => exact ⟨j + 1, b + 1, by go_num, by have := HJB.out; omega, by omega, Lib.hid (ins_next HB.out HI.out HN.out), HLN⟩
            case measure => simp [intOf]; omega
          | true =>
            rw [hq] at KC
            by_cases hr : RR < m
            · have hrz : decide (RR < m) = true := decide_eq_true hr
              have HN : Hid (inR l k q s b = true) := Lib.hid (by unfold inR; rw [← Hx.out, hq, ← HR.out, ← HM.out, decide_eq_true hr]; rfl)
              clear hq Hx
              go_wp2_with fail
              refine Cls.region (Lows wr) (by kernel_rfl) (by kernel_rfl) (low_drewN (Below.refl _ _) 1) ?_
              (try dsimp only [List.append])
              repeat (go_big_quiet_step (first | fail | (with_reducible exact Cls.call ((lows_call KC).out _ (Cls.h _))) | (with_reducible exact Cls.call ((KR).out _ (Cls.h _))) | (with_reducible exact Cls.call ((lows_call KQ).out _ (Cls.h _)))))
              refine wpQuiet_nil ?_
              intro n9
              have hk9 := n9.h
              generalize n9.w = w9 at hk9 ⊢
              clear hne n9 f0 f1 f2 f3 f4 f5 f6 f7 f8 f9 g0 g1 g2 g3 KC KR KQ
              have HLN : Hid (Lows (w.alloc (.cells #[.int .i64 q.g, .int .i64 q.p, .int .i64 q.w, .int .i64 q.t] 24)) w9) := Lib.hid (low_trans HL.out hk9)
              go_wp2_with fail
              go_ret
              exact ⟨ret_b (by rw [E.out]; exact (ins_yes (j := j) HB.out hj4 HN.out).symm), low_trans L0.out HLN.out⟩
            · have hrz : decide (RR < m) = false := decide_eq_false hr
              have HN : Hid (inR l k q s b = false) := Lib.hid (by unfold inR; rw [← Hx.out, hq, ← HR.out, ← HM.out, decide_eq_false hr]; rfl)
              clear hq Hx
              go_wp2_with fail
              refine Cls.region (Lows wr) (by kernel_rfl) (by kernel_rfl) (low_drewN (Below.refl _ _) 1) ?_
              (try dsimp only [List.append])
              repeat (go_big_quiet_step (first | fail | (with_reducible exact Cls.call ((lows_call KC).out _ (Cls.h _))) | (with_reducible exact Cls.call ((KR).out _ (Cls.h _))) | (with_reducible exact Cls.call ((lows_call KQ).out _ (Cls.h _)))))
              refine wpQuiet_nil ?_
              intro n9
              have hk9 := n9.h
              generalize n9.w = w9 at hk9 ⊢
              clear hne n9 f0 f1 f2 f3 f4 f5 f6 f7 f8 f9 g0 g1 g2 g3 KC KR KQ
              have HLN : Hid (Lows (w.alloc (.cells #[.int .i64 q.g, .int .i64 q.p, .int .i64 q.w, .int .i64 q.t] 24)) w9) := Lib.hid (low_trans HL.out hk9)
              go_wp2_with fail
              go_roundw
              case rel => exact ⟨j + 1, b + 1, by go_num, by have := HJB.out; omega, by omega, Lib.hid (ins_next HB.out HI.out HN.out), HLN⟩
              case measure => simp [intOf]; omega
        · have hj4z : ¬ (b : Int) ≤ 4 := by omega
          have E2 : Hid (II = false) := Lib.hid (by rw [E.out]; exact ins_no fun c h1 h2 => HI.out c h1 (by omega))
          clear hjb
          go_wp2_with fail
          go_ret
          exact ⟨ret_b E2.out.symm, low_trans L0.out HL.out⟩
    · have E : Hid (insideR l i q s = false) := Lib.hid (by unfold insideR; rw [decide_eq_false (by omega)]; rfl)
      have hi2 : (l.length : Int) ≤ i := by omega
      go_enter Try.func8, Try.ntmps8
      go_wp2_with fail
      go_ret
      exact ⟨ret_b E.out.symm, L0.out⟩
set_option maxHeartbeats 4000000 in
theorem sameBools_any (u1 u2 : Value) (L : List Bool) (w : World) (h1 : BoolsI w u1 L) (h2 : BoolsI w u2 L) (hl : L.length ≤ 1000000) :
    Calls Try.prog 9 #[u1, u2] w fun e w' => e = .returned (.bool true) ∧ Below w.heap.size w w' := by
  obtain ⟨A1, c1, rfl, hc1, _, hcell1⟩ := h1
  obtain ⟨A2, c2, rfl, hc2, _, hcell2⟩ := h2
  have HC1 := Lib.hid hcell1
  have HC2 := Lib.hid hcell2
  have z0 : ((L.length : Int) != (L.length : Int)) = false := by simp
  clear hcell1 hcell2
  go_enter Try.func9, Try.ntmps9
  go_wp2_with fail
  go_loopw [5] (fun vi wr => ∃ i : Nat, vi = .int .i64 i ∧ i ≤ L.length ∧ Hid (Lows w wr)) (fun vi _ => L.length - (intOf vi).toNat)
  case atStart => exact ⟨0, rfl, Nat.zero_le _, Lib.hid (Lows.self _)⟩
  case round =>
    obtain ⟨i, rfl, hi, HL⟩ := hrel
    by_cases hli : i < L.length
    · have hliz : (i : Int) < (L.length : Int) := by omega
      obtain ⟨b1, o1, rfl, hb1, hcc1⟩ := HC1.out (by omega)
      obtain ⟨b2, o2, rfl, hb2, hcc2⟩ := HC2.out (by omega)
      obtain ⟨x, hx⟩ : ∃ x, x = L[i] := ⟨_, rfl⟩
      have e1 := (HL.out.cell (p := ⟨b1, o1 + i * 1 + 0, none⟩) hb1).trans (hcc1 i hli 0 (.bool L[i]) rfl)
      have e2 := (HL.out.cell (p := ⟨b2, o2 + i * 1 + 0, none⟩) hb2).trans (hcc2 i hli 0 (.bool L[i]) rfl)
      rw [Nat.mul_one, Nat.add_zero, ← hx] at e1 e2
      have zx : (x != x) = false := by simp
      have zx2 : (!(x == x)) = false := by simp
      have hne : Nonempty (Cls (Lows wr)) := ⟨⟨_, Lows.self _⟩⟩
      have f1 : ∀ nq : Cls (Lows wr), nq.w.cell? ⟨b1, o1 + i, none⟩ = some (.bool x) := fun nq => (nq.h.cell (p := ⟨b1, o1 + i, none⟩) (Nat.lt_of_lt_of_le hb1 HL.out.size)).trans e1
      have f2 : ∀ nq : Cls (Lows wr), nq.w.cell? ⟨b2, o2 + i, none⟩ = some (.bool x) := fun nq => (nq.h.cell (p := ⟨b2, o2 + i, none⟩) (Nat.lt_of_lt_of_le hb2 HL.out.size)).trans e2
      clear hx hcc1 hcc2 e1 e2 hb1 hb2
      go_wp2_with fail
      refine Cls.region (Lows wr) (by kernel_rfl) (by kernel_rfl) (low_drewN (Below.refl _ _) 1) ?_
      repeat (go_big_quiet_step (first | fail))
      refine wpQuiet_nil ?_
      intro n9
      have hk9 := n9.h
      generalize n9.w = w9 at hk9 ⊢
      clear hne n9 f1 f2
      go_wp2_with fail
      go_roundw
      case rel => exact ⟨i + 1, by go_num, by omega, Lib.hid (low_trans HL.out hk9)⟩
      case measure => simp [intOf]; omega
    · have hliz : ¬ (i : Int) < (L.length : Int) := by omega
      go_wp2_with fail
      go_ret
      exact ⟨rfl, HL.out⟩
end Go.Proofs.Ytlnbjkbbnhjkgaa.Sh
