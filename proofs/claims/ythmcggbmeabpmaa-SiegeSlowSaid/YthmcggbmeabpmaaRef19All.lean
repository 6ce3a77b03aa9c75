/- The document's own answers for layer 19 (shield). -/
import Derived.Test.YthmcggbmeabpmaaShieldAll
import Derived.Test.YthmcggbmeabpmaaRef18All
namespace Go.Proofs.Ythmcggbmeabpmaa.Sh
set_option maxRecDepth 100000
open Go.ChangeShapes Go.WideShapes Go.ChangeAt Go.RowKit
open Dec Words V4 V6 Ad Ci En Sat Ha Pe Stb Gr Mi Ra Go.Deep
set_option linter.unusedVariables false
theorem rquota_any (q : Qt) (b : Int) (w : World) : Calls Try.prog 23 #[.agg #[.int .i64 q.g, .int .i64 q.p, .int .i64 q.w, .int .i64 q.t], .int .i64 b] w fun e w' => e = .returned (.int .i64 (q.by b)) ∧ Below w.heap.size w w' := by
  have L0 : Hid (Lows w (w.alloc (.cells #[.int .i64 q.g, .int .i64 q.p, .int .i64 q.w, .int .i64 q.t] 24))) := Lib.hid (Lows.alloc (Lows.self w) _)
  have O := Lib.hid (Blk.new w #[.int .i64 q.g, .int .i64 q.p, .int .i64 q.w, .int .i64 q.t] 24)
  have q0 := O.out.cell (j := 0) rfl
  have q1 := O.out.cell (j := 1) rfl
  have q2 := O.out.cell (j := 2) rfl
  have q3 := O.out.cell (j := 3) rfl
  by_cases n1 : b = 1
  · subst n1
    have E : Hid (q.by 1 = q.g) := Lib.hid rfl
    generalize q.by 1 = rr at E ⊢
    go_enter Try.func23, Try.ntmps23
    go_wp2_with fail
    go_ret
    exact ⟨ret_i E.out.symm, L0.out⟩
  · by_cases n2 : b = 2
    · subst n2
      have E : Hid (q.by 2 = q.p) := Lib.hid rfl
      generalize q.by 2 = rr at E ⊢
      go_enter Try.func23, Try.ntmps23
      go_wp2_with fail
      go_ret
      exact ⟨ret_i E.out.symm, L0.out⟩
    · by_cases n3 : b = 3
      · subst n3
        have E : Hid (q.by 3 = q.w) := Lib.hid rfl
        generalize q.by 3 = rr at E ⊢
        go_enter Try.func23, Try.ntmps23
        go_wp2_with fail
        go_ret
        exact ⟨ret_i E.out.symm, L0.out⟩
      · have z1 : (b == 1) = false := by rw [beq_eq_false_iff_ne]; exact n1
        have z2 : (b == 2) = false := by rw [beq_eq_false_iff_ne]; exact n2
        have z3 : (b == 3) = false := by rw [beq_eq_false_iff_ne]; exact n3
        have E : Hid (q.by b = q.t) := Lib.hid (by unfold Qt.by; rw [if_neg n1, if_neg n2, if_neg n3])
        generalize q.by b = rr at E ⊢
        go_enter Try.func23, Try.ntmps23
        go_wp2_with fail
        go_ret
        exact ⟨ret_i E.out.symm, L0.out⟩
set_option maxHeartbeats 16000000 in
theorem rsaved_any (v : Value) (l : List Pr) (q : Qt) (s : Nat) (w : World) (h : Peers w v l) (hok : ∀ x ∈ l, x.ok) (hl : l.length ≤ 1000000) (hs : s < 18446744073709551616) :
    Calls Try.prog 48 #[v, .agg #[.int .i64 q.g, .int .i64 q.p, .int .i64 q.w, .int .i64 q.t], .int .u64 (s : Nat)] w fun e w' => ∃ u, e = .returned u ∧ BoolsI w' u (ls l.length (savedR l q s 4)) ∧ Below w.heap.size w w' := by
  obtain ⟨A, c, rfl, hc, _, hcell⟩ := h
  have HC := Lib.hid hcell
  have HOK := Lib.hid hok
  have HS := Lib.hid hs
  have R1 := Lib.hid (make_bools (w.alloc (.cells #[.int .i64 q.g, .int .i64 q.p, .int .i64 q.w, .int .i64 q.t] 24)) l.length hl)
  have B0 : Hid (Blk ((w.alloc (.cells #[.int .i64 q.g, .int .i64 q.p, .int .i64 q.w, .int .i64 q.t] 24)).alloc (.cells (madeCells (Value.cells (.bool false)) (l.length * 1)) 4)) (w.heap.size + 1) 4 (ls l.length (bv (savedR l q s 0)))) := Lib.hid (by
    have h := Blk.two w (.cells #[.int .i64 q.g, .int .i64 q.p, .int .i64 q.w, .int .i64 q.t] 24) (madeCells (Value.cells (.bool false)) (l.length * 1)) 4
    rw [made_bools] at h
    exact h)
  have OQ : Hid (Blk ((w.alloc (.cells #[.int .i64 q.g, .int .i64 q.p, .int .i64 q.w, .int .i64 q.t] 24)).alloc (.cells (madeCells (Value.cells (.bool false)) (l.length * 1)) 4)) w.heap.size 24 [.int .i64 q.g, .int .i64 q.p, .int .i64 q.w, .int .i64 q.t]) := Lib.hid ((Blk.new w #[.int .i64 q.g, .int .i64 q.p, .int .i64 q.w, .int .i64 q.t] 24).alloc _)
  have L0 : Hid (Below w.heap.size w ((w.alloc (.cells #[.int .i64 q.g, .int .i64 q.p, .int .i64 q.w, .int .i64 q.t] 24)).alloc (.cells (madeCells (Value.cells (.bool false)) (l.length * 1)) 4))) := Lib.hid (Lows.alloc (Lows.alloc (Lows.self w) _) _)
  rw [show (w.alloc (.cells #[.int .i64 q.g, .int .i64 q.p, .int .i64 q.w, .int .i64 q.t] 24)).heap.size = w.heap.size + 1 from by simp] at R1
  generalize (w.alloc (.cells #[.int .i64 q.g, .int .i64 q.p, .int .i64 q.w, .int .i64 q.t] 24)).alloc (.cells (madeCells (Value.cells (.bool false)) (l.length * 1)) 4) = W4 at R1 B0 L0 OQ
  clear hcell hok hs
  go_enter Try.func48, Try.ntmps48
  go_wp2_with (first
    | (at_make; refine wpList_make_run rfl _ _ _ rfl _ _ _ _ rfl rfl R1.out ?_)
    | fail)
  go_loopw [8] (fun vb wr => ∃ i b : Nat, vb = .int .i64 b ∧ b = i + 1 ∧ b ≤ 5 ∧ Hid (Blk wr (w.heap.size + 1) 4 (ls l.length (bv (savedR l q s i)))) ∧ Hid (Bt (w.heap.size + 1) W4 wr)) (fun vb _ => 5 - (intOf vb).toNat)
  case atStart => exact ⟨0, 1, rfl, rfl, by decide, B0, Lib.hid (Bt.refl _ _)⟩
  case round =>
    obtain ⟨i0, b, rfl, hib, hb5, HB0, HT0⟩ := hrel
    clear B0 R1
    by_cases hb4 : b ≤ 4
    · have hb4z : (b : Int) ≤ 4 := by omega
      obtain ⟨S, hS⟩ : ∃ S, S = savedR l q s i0 := ⟨_, rfl⟩
      rw [← hS] at HB0
      obtain ⟨O, hO⟩ : ∃ O, O = ordX l b s S := ⟨_, rfl⟩
      obtain ⟨n, hn⟩ : ∃ n, n = q.by b := ⟨_, rfl⟩
      have HSN : Hid (savedR l q s b = upto S O n.toNat) := Lib.hid (by
        rw [hib]
        show upto _ _ _ = _
        rw [hO, hn, hS, hib])
      have HB1 : Hid (Blk wr (w.heap.size + 1) 4 (ls l.length (bv (upto S O 0)))) := Lib.hid (by rw [upto_zero]; exact HB0.out)
      have HOL : Hid (O.length ≤ l.length) := Lib.hid (by rw [hO]; exact ordX_le l b s S)
      have HO := Lib.hid hO
      have KQ : Hid (∀ W, Calls Try.prog 23 #[.agg #[.int .i64 q.g, .int .i64 q.p, .int .i64 q.w, .int .i64 q.t], .int .i64 b] W fun e w' => e = .returned (.int .i64 n) ∧ Below W.heap.size W w') := Lib.hid fun W => by rw [hn]; exact rquota_any q b W
      clear hS hO hn HB0 hib
      go_wp2_with fail
      go_loopw [9] (fun vk wr => ∃ k : Nat, vk = .int .i64 k ∧ k ≤ l.length ∧ Hid (k ≤ n.toNat) ∧ Hid (Blk wr (w.heap.size + 1) 4 (ls l.length (bv (upto S O k)))) ∧ Hid (Bt (w.heap.size + 1) W4 wr)) (fun vk _ => l.length - (intOf vk).toNat)
      case atStart => exact ⟨0, rfl, Nat.zero_le _, Lib.hid (Nat.zero_le _), HB1, HT0⟩
      case round =>
        obtain ⟨k, rfl, hkl, HKN, HB, HT⟩ := hrel
        clear HB1 HT0
        have OQ2 := Lib.hid (OQ.out.but HT.out (by omega))
        have q0 := OQ2.out.cell (j := 0) rfl
        have q1 := OQ2.out.cell (j := 1) rfl
        have q2 := OQ2.out.cell (j := 2) rfl
        have q3 := OQ2.out.cell (j := 3) rfl
        clear OQ2
        by_cases hkn : (k : Int) < n
        · by_cases hkl2 : k < l.length
          · have hklz : (k : Int) < (l.length : Int) := by omega
            go_wp2_with fail
            refine (KQ.out _).mono ?_; rintro e9 W ⟨rfl, hbq⟩
            have HBW := Lib.hid (HB.out.on hbq)
            have HTW := Lib.hid (HT.out.trans (Bt.of hbq))
            have HLW0 : Hid (Below w.heap.size w W) := Lib.hid (L0.out.trans (HTW.out.low (Nat.le_succ _) L0.out.size))
            clear hbq q0 q1 q2 q3 HB HT
            go_wp2_with fail
            go_loopw [10, 11] (fun va vi wr => ∃ (i : Nat) (a : Int), va = .int .i64 a ∧ vi = .int .i64 i ∧ i ≤ l.length ∧ Hid (PickU l b s (upto S O k) i a) ∧ Hid (Lows W wr)) (fun _ vi _ => l.length - (intOf vi).toNat)
            case atStart => exact ⟨0, -1, rfl, rfl, Nat.zero_le _, Lib.hid pickU_start, Lib.hid (Lows.self _)⟩
            case round =>
              obtain ⟨i, a, rfl, rfl, hil, HP, HLI⟩ := hrel
              by_cases hli : i < l.length
              · have hliz : (i : Int) < (l.length : Int) := by omega
                have OU2 := Lib.hid (HBW.out.on HLI.out)
                have HLW : Hid (Below w.heap.size w wr) := Lib.hid (low_trans'' HLW0.out HLI.out)
                obtain ⟨bb, o, rfl, hb, hcc⟩ := HC.out (by omega)
                cases hu : upto S O k i with
                | true =>
                  clear hcc hb
                  have hne : Nonempty (Cls (Lows wr)) := ⟨⟨_, Lows.self _⟩⟩
                  have hu0 : ∀ nq : Cls (Lows wr), nq.w.cell? ⟨w.heap.size + 1, i, none⟩ = some (.bool true) := fun nq => Blk.in OU2 nq.h (by rw [ls_at _ hli]; exact congrArg (fun x => some (Value.bool x)) hu)
                  have HN := Lib.hid (pickU_skip HP.out (Or.inl hu))
                  clear hu
                  go_wp2_with fail
                  refine Cls.region (Lows wr) (by kernel_rfl) (by kernel_rfl) (low_drewN (Below.refl _ _) 1) ?_
                  (try dsimp only [List.append])
                  repeat (go_big_quiet_step (first | fail))
                  refine wpQuiet_nil ?_
                  intro n9
                  have hk9 := n9.h
                  generalize n9.w = w9 at hk9 ⊢
                  clear hne n9 hu0
                  go_wp2_with fail
                  go_roundw
                  case rel => exact ⟨i + 1, a, rfl, by go_num, by omega, HN, Lib.hid (low_trans HLI.out hk9)⟩
                  case measure => simp [intOf]; omega
                | false =>
                  cases hq : countsR l[i]! b with
                  | false =>
                    have hne : Nonempty (Cls (Lows wr)) := ⟨⟨_, Lows.self _⟩⟩
                    have hu0 : ∀ nq : Cls (Lows wr), nq.w.cell? ⟨w.heap.size + 1, i, none⟩ = some (.bool false) := fun nq => Blk.in OU2 nq.h (by rw [ls_at _ hli]; exact congrArg (fun x => some (Value.bool x)) hu)
                    obtain ⟨x, hx⟩ : ∃ x, x = l[i]! := ⟨_, rfl⟩
                    have hokx : x.ok := by rw [hx, getElem!_pos l i hli]; exact HOK.out _ (List.getElem_mem _)
                    have f0 : ∀ nq : Cls (Lows wr), nq.w.cell? ⟨bb, o + i * 10, none⟩ = some (.bool x.e.a.v6) := fun nq => by rw [hx]; exact peer_at (low_trans'' HLW.out nq.h) hb hcc hli (j := 0) rfl
                    have f1 : ∀ nq : Cls (Lows wr), nq.w.cell? ⟨bb, o + i * 10 + 1, none⟩ = some (.int .u64 x.e.a.hi) := fun nq => by rw [hx]; exact peer_at (low_trans'' HLW.out nq.h) hb hcc hli (j := 1) rfl
                    have f2 : ∀ nq : Cls (Lows wr), nq.w.cell? ⟨bb, o + i * 10 + 2, none⟩ = some (.int .u64 x.e.a.lo) := fun nq => by rw [hx]; exact peer_at (low_trans'' HLW.out nq.h) hb hcc hli (j := 2) rfl
                    have f3 : ∀ nq : Cls (Lows wr), nq.w.cell? ⟨bb, o + i * 10 + 3, none⟩ = some (.int .i64 x.e.n) := fun nq => by rw [hx]; exact peer_at (low_trans'' HLW.out nq.h) hb hcc hli (j := 3) rfl
                    have f4 : ∀ nq : Cls (Lows wr), nq.w.cell? ⟨bb, o + i * 10 + 4, none⟩ = some (.bool x.i) := fun nq => by rw [hx]; exact peer_at (low_trans'' HLW.out nq.h) hb hcc hli (j := 4) rfl
                    have f5 : ∀ nq : Cls (Lows wr), nq.w.cell? ⟨bb, o + i * 10 + 5, none⟩ = some (.int .i64 x.t) := fun nq => by rw [hx]; exact peer_at (low_trans'' HLW.out nq.h) hb hcc hli (j := 5) rfl
                    have f6 : ∀ nq : Cls (Lows wr), nq.w.cell? ⟨bb, o + i * 10 + 6, none⟩ = some (.int .i64 x.c.p) := fun nq => by rw [hx]; exact peer_at (low_trans'' HLW.out nq.h) hb hcc hli (j := 6) rfl
                    have f7 : ∀ nq : Cls (Lows wr), nq.w.cell? ⟨bb, o + i * 10 + 7, none⟩ = some (.int .i64 x.c.a) := fun nq => by rw [hx]; exact peer_at (low_trans'' HLW.out nq.h) hb hcc hli (j := 7) rfl
                    have f8 : ∀ nq : Cls (Lows wr), nq.w.cell? ⟨bb, o + i * 10 + 8, none⟩ = some (.int .i64 x.g) := fun nq => by rw [hx]; exact peer_at (low_trans'' HLW.out nq.h) hb hcc hli (j := 8) rfl
                    have f9 : ∀ nq : Cls (Lows wr), nq.w.cell? ⟨bb, o + i * 10 + 9, none⟩ = some (.int .i64 x.k) := fun nq => by rw [hx]; exact peer_at (low_trans'' HLW.out nq.h) hb hcc hli (j := 9) rfl
                    have Hx := Lib.hid hx
                    clear hx
                    have KC : Hid (∀ W, Calls Try.prog 21 #[.agg #[.bool x.e.a.v6, .int .u64 x.e.a.hi, .int .u64 x.e.a.lo, .int .i64 x.e.n, .bool x.i, .int .i64 x.t, .int .i64 x.c.p, .int .i64 x.c.a, .int .i64 x.g, .int .i64 x.k], .int .i64 b] W fun e w' => e = .returned (.bool (countsR x b)) ∧ Below W.heap.size W w') := Lib.hid fun W => rcounts_any x b W
                    rw [show countsR x b = false from by rw [Hx.out]; exact hq] at KC
                    have HN := Lib.hid (pickU_skip (i := i) HP.out (Or.inr hq))
                    clear hu hq hokx hcc hb
                    go_wp2_with fail
                    refine Cls.region (Lows wr) (by kernel_rfl) (by kernel_rfl) (low_drewN (Below.refl _ _) 1) ?_
                    (try dsimp only [List.append])
                    repeat (go_big_quiet_step (first | fail | (with_reducible exact Cls.call ((lows_call KC).out _ (Cls.h _)))))
                    refine wpQuiet_nil ?_
                    intro n9
                    have hk9 := n9.h
                    generalize n9.w = w9 at hk9 ⊢
                    clear hne n9 hu0 f0 f1 f2 f3 f4 f5 f6 f7 f8 f9 KC
                    go_wp2_with fail
                    go_roundw
                    case rel => exact ⟨i + 1, a, rfl, by go_num, by omega, HN, Lib.hid (low_trans HLI.out hk9)⟩
                    case measure => simp [intOf]; omega
                  | true =>
                    by_cases ha : a < 0
                    · clear hkn
                      have hne : Nonempty (Cls (Lows wr)) := ⟨⟨_, Lows.self _⟩⟩
                      have hu0 : ∀ nq : Cls (Lows wr), nq.w.cell? ⟨w.heap.size + 1, i, none⟩ = some (.bool false) := fun nq => Blk.in OU2 nq.h (by rw [ls_at _ hli]; exact congrArg (fun x => some (Value.bool x)) hu)
                      obtain ⟨x, hx⟩ : ∃ x, x = l[i]! := ⟨_, rfl⟩
                      have hokx : x.ok := by rw [hx, getElem!_pos l i hli]; exact HOK.out _ (List.getElem_mem _)
                      have f0 : ∀ nq : Cls (Lows wr), nq.w.cell? ⟨bb, o + i * 10, none⟩ = some (.bool x.e.a.v6) := fun nq => by rw [hx]; exact peer_at (low_trans'' HLW.out nq.h) hb hcc hli (j := 0) rfl
                      have f1 : ∀ nq : Cls (Lows wr), nq.w.cell? ⟨bb, o + i * 10 + 1, none⟩ = some (.int .u64 x.e.a.hi) := fun nq => by rw [hx]; exact peer_at (low_trans'' HLW.out nq.h) hb hcc hli (j := 1) rfl
                      have f2 : ∀ nq : Cls (Lows wr), nq.w.cell? ⟨bb, o + i * 10 + 2, none⟩ = some (.int .u64 x.e.a.lo) := fun nq => by rw [hx]; exact peer_at (low_trans'' HLW.out nq.h) hb hcc hli (j := 2) rfl
                      have f3 : ∀ nq : Cls (Lows wr), nq.w.cell? ⟨bb, o + i * 10 + 3, none⟩ = some (.int .i64 x.e.n) := fun nq => by rw [hx]; exact peer_at (low_trans'' HLW.out nq.h) hb hcc hli (j := 3) rfl
                      have f4 : ∀ nq : Cls (Lows wr), nq.w.cell? ⟨bb, o + i * 10 + 4, none⟩ = some (.bool x.i) := fun nq => by rw [hx]; exact peer_at (low_trans'' HLW.out nq.h) hb hcc hli (j := 4) rfl
                      have f5 : ∀ nq : Cls (Lows wr), nq.w.cell? ⟨bb, o + i * 10 + 5, none⟩ = some (.int .i64 x.t) := fun nq => by rw [hx]; exact peer_at (low_trans'' HLW.out nq.h) hb hcc hli (j := 5) rfl
                      have f6 : ∀ nq : Cls (Lows wr), nq.w.cell? ⟨bb, o + i * 10 + 6, none⟩ = some (.int .i64 x.c.p) := fun nq => by rw [hx]; exact peer_at (low_trans'' HLW.out nq.h) hb hcc hli (j := 6) rfl
                      have f7 : ∀ nq : Cls (Lows wr), nq.w.cell? ⟨bb, o + i * 10 + 7, none⟩ = some (.int .i64 x.c.a) := fun nq => by rw [hx]; exact peer_at (low_trans'' HLW.out nq.h) hb hcc hli (j := 7) rfl
                      have f8 : ∀ nq : Cls (Lows wr), nq.w.cell? ⟨bb, o + i * 10 + 8, none⟩ = some (.int .i64 x.g) := fun nq => by rw [hx]; exact peer_at (low_trans'' HLW.out nq.h) hb hcc hli (j := 8) rfl
                      have f9 : ∀ nq : Cls (Lows wr), nq.w.cell? ⟨bb, o + i * 10 + 9, none⟩ = some (.int .i64 x.k) := fun nq => by rw [hx]; exact peer_at (low_trans'' HLW.out nq.h) hb hcc hli (j := 9) rfl
                      have Hx := Lib.hid hx
                      clear hx
                      have KC : Hid (∀ W, Calls Try.prog 21 #[.agg #[.bool x.e.a.v6, .int .u64 x.e.a.hi, .int .u64 x.e.a.lo, .int .i64 x.e.n, .bool x.i, .int .i64 x.t, .int .i64 x.c.p, .int .i64 x.c.a, .int .i64 x.g, .int .i64 x.k], .int .i64 b] W fun e w' => e = .returned (.bool (countsR x b)) ∧ Below W.heap.size W w') := Lib.hid fun W => rcounts_any x b W
                      rw [show countsR x b = true from by rw [Hx.out]; exact hq] at KC
                      have HN := Lib.hid (pickU_first (i := i) HP.out ha hu hq)
                      clear hu hq hokx hcc hb
                      go_wp2_with fail
                      refine Cls.region (Lows wr) (by kernel_rfl) (by kernel_rfl) (low_drewN (Below.refl _ _) 1) ?_
                      (try dsimp only [List.append])
                      repeat (go_big_quiet_step (first | fail | (with_reducible exact Cls.call ((lows_call KC).out _ (Cls.h _)))))
                      refine wpQuiet_nil ?_
                      intro n9
                      have hk9 := n9.h
                      generalize n9.w = w9 at hk9 ⊢
                      clear hne n9 hu0 f0 f1 f2 f3 f4 f5 f6 f7 f8 f9 KC
                      go_wp2_with fail
                      go_roundw
                      case rel => exact ⟨i + 1, (i : Int), rfl, by go_num, by omega, HN, Lib.hid (low_trans HLI.out hk9)⟩
                      case measure => simp [intOf]; omega
                    · obtain ⟨m, rfl⟩ : ∃ m : Nat, a = (m : Int) := ⟨a.toNat, by omega⟩
                      have hlm : m < l.length := by
                        rcases pickU_at HP.out with h1 | ⟨m2, h1, h2⟩
                        · omega
                        · omega
                      have hlmz : (m : Int) < (l.length : Int) := by omega
                      have hmz : decide ((m : Int) < 0) = false := decide_eq_false ha
                      cases hA : aheadR l[i]! l[m]! b s with
                      | true =>
                        have hne : Nonempty (Cls (Lows wr)) := ⟨⟨_, Lows.self _⟩⟩
                        have hu0 : ∀ nq : Cls (Lows wr), nq.w.cell? ⟨w.heap.size + 1, i, none⟩ = some (.bool false) := fun nq => Blk.in OU2 nq.h (by rw [ls_at _ hli]; exact congrArg (fun x => some (Value.bool x)) hu)
                        obtain ⟨x, hx⟩ : ∃ x, x = l[i]! := ⟨_, rfl⟩
                        have hokx : x.ok := by rw [hx, getElem!_pos l i hli]; exact HOK.out _ (List.getElem_mem _)
                        have f0 : ∀ nq : Cls (Lows wr), nq.w.cell? ⟨bb, o + i * 10, none⟩ = some (.bool x.e.a.v6) := fun nq => by rw [hx]; exact peer_at (low_trans'' HLW.out nq.h) hb hcc hli (j := 0) rfl
                        have f1 : ∀ nq : Cls (Lows wr), nq.w.cell? ⟨bb, o + i * 10 + 1, none⟩ = some (.int .u64 x.e.a.hi) := fun nq => by rw [hx]; exact peer_at (low_trans'' HLW.out nq.h) hb hcc hli (j := 1) rfl
                        have f2 : ∀ nq : Cls (Lows wr), nq.w.cell? ⟨bb, o + i * 10 + 2, none⟩ = some (.int .u64 x.e.a.lo) := fun nq => by rw [hx]; exact peer_at (low_trans'' HLW.out nq.h) hb hcc hli (j := 2) rfl
                        have f3 : ∀ nq : Cls (Lows wr), nq.w.cell? ⟨bb, o + i * 10 + 3, none⟩ = some (.int .i64 x.e.n) := fun nq => by rw [hx]; exact peer_at (low_trans'' HLW.out nq.h) hb hcc hli (j := 3) rfl
                        have f4 : ∀ nq : Cls (Lows wr), nq.w.cell? ⟨bb, o + i * 10 + 4, none⟩ = some (.bool x.i) := fun nq => by rw [hx]; exact peer_at (low_trans'' HLW.out nq.h) hb hcc hli (j := 4) rfl
                        have f5 : ∀ nq : Cls (Lows wr), nq.w.cell? ⟨bb, o + i * 10 + 5, none⟩ = some (.int .i64 x.t) := fun nq => by rw [hx]; exact peer_at (low_trans'' HLW.out nq.h) hb hcc hli (j := 5) rfl
                        have f6 : ∀ nq : Cls (Lows wr), nq.w.cell? ⟨bb, o + i * 10 + 6, none⟩ = some (.int .i64 x.c.p) := fun nq => by rw [hx]; exact peer_at (low_trans'' HLW.out nq.h) hb hcc hli (j := 6) rfl
                        have f7 : ∀ nq : Cls (Lows wr), nq.w.cell? ⟨bb, o + i * 10 + 7, none⟩ = some (.int .i64 x.c.a) := fun nq => by rw [hx]; exact peer_at (low_trans'' HLW.out nq.h) hb hcc hli (j := 7) rfl
                        have f8 : ∀ nq : Cls (Lows wr), nq.w.cell? ⟨bb, o + i * 10 + 8, none⟩ = some (.int .i64 x.g) := fun nq => by rw [hx]; exact peer_at (low_trans'' HLW.out nq.h) hb hcc hli (j := 8) rfl
                        have f9 : ∀ nq : Cls (Lows wr), nq.w.cell? ⟨bb, o + i * 10 + 9, none⟩ = some (.int .i64 x.k) := fun nq => by rw [hx]; exact peer_at (low_trans'' HLW.out nq.h) hb hcc hli (j := 9) rfl
                        have Hx := Lib.hid hx
                        clear hx
                        have KC : Hid (∀ W, Calls Try.prog 21 #[.agg #[.bool x.e.a.v6, .int .u64 x.e.a.hi, .int .u64 x.e.a.lo, .int .i64 x.e.n, .bool x.i, .int .i64 x.t, .int .i64 x.c.p, .int .i64 x.c.a, .int .i64 x.g, .int .i64 x.k], .int .i64 b] W fun e w' => e = .returned (.bool (countsR x b)) ∧ Below W.heap.size W w') := Lib.hid fun W => rcounts_any x b W
                        obtain ⟨z, hz⟩ : ∃ x, x = l[m]! := ⟨_, rfl⟩
                        have hokz : z.ok := by rw [hz, getElem!_pos l m hlm]; exact HOK.out _ (List.getElem_mem _)
                        have g0 : ∀ nq : Cls (Lows wr), nq.w.cell? ⟨bb, o + m * 10, none⟩ = some (.bool z.e.a.v6) := fun nq => by rw [hz]; exact peer_at (low_trans'' HLW.out nq.h) hb hcc hlm (j := 0) rfl
                        have g1 : ∀ nq : Cls (Lows wr), nq.w.cell? ⟨bb, o + m * 10 + 1, none⟩ = some (.int .u64 z.e.a.hi) := fun nq => by rw [hz]; exact peer_at (low_trans'' HLW.out nq.h) hb hcc hlm (j := 1) rfl
                        have g2 : ∀ nq : Cls (Lows wr), nq.w.cell? ⟨bb, o + m * 10 + 2, none⟩ = some (.int .u64 z.e.a.lo) := fun nq => by rw [hz]; exact peer_at (low_trans'' HLW.out nq.h) hb hcc hlm (j := 2) rfl
                        have g3 : ∀ nq : Cls (Lows wr), nq.w.cell? ⟨bb, o + m * 10 + 3, none⟩ = some (.int .i64 z.e.n) := fun nq => by rw [hz]; exact peer_at (low_trans'' HLW.out nq.h) hb hcc hlm (j := 3) rfl
                        have g4 : ∀ nq : Cls (Lows wr), nq.w.cell? ⟨bb, o + m * 10 + 4, none⟩ = some (.bool z.i) := fun nq => by rw [hz]; exact peer_at (low_trans'' HLW.out nq.h) hb hcc hlm (j := 4) rfl
                        have g5 : ∀ nq : Cls (Lows wr), nq.w.cell? ⟨bb, o + m * 10 + 5, none⟩ = some (.int .i64 z.t) := fun nq => by rw [hz]; exact peer_at (low_trans'' HLW.out nq.h) hb hcc hlm (j := 5) rfl
                        have g6 : ∀ nq : Cls (Lows wr), nq.w.cell? ⟨bb, o + m * 10 + 6, none⟩ = some (.int .i64 z.c.p) := fun nq => by rw [hz]; exact peer_at (low_trans'' HLW.out nq.h) hb hcc hlm (j := 6) rfl
                        have g7 : ∀ nq : Cls (Lows wr), nq.w.cell? ⟨bb, o + m * 10 + 7, none⟩ = some (.int .i64 z.c.a) := fun nq => by rw [hz]; exact peer_at (low_trans'' HLW.out nq.h) hb hcc hlm (j := 7) rfl
                        have g8 : ∀ nq : Cls (Lows wr), nq.w.cell? ⟨bb, o + m * 10 + 8, none⟩ = some (.int .i64 z.g) := fun nq => by rw [hz]; exact peer_at (low_trans'' HLW.out nq.h) hb hcc hlm (j := 8) rfl
                        have g9 : ∀ nq : Cls (Lows wr), nq.w.cell? ⟨bb, o + m * 10 + 9, none⟩ = some (.int .i64 z.k) := fun nq => by rw [hz]; exact peer_at (low_trans'' HLW.out nq.h) hb hcc hlm (j := 9) rfl
                        have Hz := Lib.hid hz
                        clear hz
                        have KA : Hid (∀ W, Calls Try.prog 34 #[.agg #[.bool x.e.a.v6, .int .u64 x.e.a.hi, .int .u64 x.e.a.lo, .int .i64 x.e.n, .bool x.i, .int .i64 x.t, .int .i64 x.c.p, .int .i64 x.c.a, .int .i64 x.g, .int .i64 x.k], .agg #[.bool z.e.a.v6, .int .u64 z.e.a.hi, .int .u64 z.e.a.lo, .int .i64 z.e.n, .bool z.i, .int .i64 z.t, .int .i64 z.c.p, .int .i64 z.c.a, .int .i64 z.g, .int .i64 z.k], .int .i64 b, .int .u64 (s : Nat)] W fun e w' => e = .returned (.bool (aheadR x z b s)) ∧ Below W.heap.size W w') := Lib.hid fun W => rahead_any x z b s W hokx hokz HS.out
                        rw [show countsR x b = true from by rw [Hx.out]; exact hq] at KC
                        rw [show aheadR x z b s = true from by rw [Hx.out, Hz.out]; exact hA] at KA
                        have HN := Lib.hid (pickU_better (i := i) HP.out hu hq hA)
                        clear hu hq hokx hokz hcc hb hA
                        go_wp2_with fail
                        refine Cls.region (Lows wr) (by kernel_rfl) (by kernel_rfl) (low_drewN (Below.refl _ _) 1) ?_
                        (try dsimp only [List.append])
                        repeat (go_big_quiet_step (first | fail | (with_reducible exact Cls.call ((lows_call KC).out _ (Cls.h _))) | (with_reducible exact Cls.call ((lows_call KA).out _ (Cls.h _)))))
                        refine wpQuiet_nil ?_
                        intro n9
                        have hk9 := n9.h
                        generalize n9.w = w9 at hk9 ⊢
                        clear hne n9 hu0 f0 f1 f2 f3 f4 f5 f6 f7 f8 f9 KC g0 g1 g2 g3 g4 g5 g6 g7 g8 g9 KA
                        go_wp2_with fail
                        go_roundw
                        case rel => exact ⟨i + 1, (i : Int), rfl, by go_num, by omega, HN, Lib.hid (low_trans HLI.out hk9)⟩
                        case measure => simp [intOf]; omega
                      | false =>
                        have hne : Nonempty (Cls (Lows wr)) := ⟨⟨_, Lows.self _⟩⟩
                        have hu0 : ∀ nq : Cls (Lows wr), nq.w.cell? ⟨w.heap.size + 1, i, none⟩ = some (.bool false) := fun nq => Blk.in OU2 nq.h (by rw [ls_at _ hli]; exact congrArg (fun x => some (Value.bool x)) hu)
                        obtain ⟨x, hx⟩ : ∃ x, x = l[i]! := ⟨_, rfl⟩
                        have hokx : x.ok := by rw [hx, getElem!_pos l i hli]; exact HOK.out _ (List.getElem_mem _)
                        have f0 : ∀ nq : Cls (Lows wr), nq.w.cell? ⟨bb, o + i * 10, none⟩ = some (.bool x.e.a.v6) := fun nq => by rw [hx]; exact peer_at (low_trans'' HLW.out nq.h) hb hcc hli (j := 0) rfl
                        have f1 : ∀ nq : Cls (Lows wr), nq.w.cell? ⟨bb, o + i * 10 + 1, none⟩ = some (.int .u64 x.e.a.hi) := fun nq => by rw [hx]; exact peer_at (low_trans'' HLW.out nq.h) hb hcc hli (j := 1) rfl
                        have f2 : ∀ nq : Cls (Lows wr), nq.w.cell? ⟨bb, o + i * 10 + 2, none⟩ = some (.int .u64 x.e.a.lo) := fun nq => by rw [hx]; exact peer_at (low_trans'' HLW.out nq.h) hb hcc hli (j := 2) rfl
                        have f3 : ∀ nq : Cls (Lows wr), nq.w.cell? ⟨bb, o + i * 10 + 3, none⟩ = some (.int .i64 x.e.n) := fun nq => by rw [hx]; exact peer_at (low_trans'' HLW.out nq.h) hb hcc hli (j := 3) rfl
                        have f4 : ∀ nq : Cls (Lows wr), nq.w.cell? ⟨bb, o + i * 10 + 4, none⟩ = some (.bool x.i) := fun nq => by rw [hx]; exact peer_at (low_trans'' HLW.out nq.h) hb hcc hli (j := 4) rfl
                        have f5 : ∀ nq : Cls (Lows wr), nq.w.cell? ⟨bb, o + i * 10 + 5, none⟩ = some (.int .i64 x.t) := fun nq => by rw [hx]; exact peer_at (low_trans'' HLW.out nq.h) hb hcc hli (j := 5) rfl
                        have f6 : ∀ nq : Cls (Lows wr), nq.w.cell? ⟨bb, o + i * 10 + 6, none⟩ = some (.int .i64 x.c.p) := fun nq => by rw [hx]; exact peer_at (low_trans'' HLW.out nq.h) hb hcc hli (j := 6) rfl
                        have f7 : ∀ nq : Cls (Lows wr), nq.w.cell? ⟨bb, o + i * 10 + 7, none⟩ = some (.int .i64 x.c.a) := fun nq => by rw [hx]; exact peer_at (low_trans'' HLW.out nq.h) hb hcc hli (j := 7) rfl
                        have f8 : ∀ nq : Cls (Lows wr), nq.w.cell? ⟨bb, o + i * 10 + 8, none⟩ = some (.int .i64 x.g) := fun nq => by rw [hx]; exact peer_at (low_trans'' HLW.out nq.h) hb hcc hli (j := 8) rfl
                        have f9 : ∀ nq : Cls (Lows wr), nq.w.cell? ⟨bb, o + i * 10 + 9, none⟩ = some (.int .i64 x.k) := fun nq => by rw [hx]; exact peer_at (low_trans'' HLW.out nq.h) hb hcc hli (j := 9) rfl
                        have Hx := Lib.hid hx
                        clear hx
                        have KC : Hid (∀ W, Calls Try.prog 21 #[.agg #[.bool x.e.a.v6, .int .u64 x.e.a.hi, .int .u64 x.e.a.lo, .int .i64 x.e.n, .bool x.i, .int .i64 x.t, .int .i64 x.c.p, .int .i64 x.c.a, .int .i64 x.g, .int .i64 x.k], .int .i64 b] W fun e w' => e = .returned (.bool (countsR x b)) ∧ Below W.heap.size W w') := Lib.hid fun W => rcounts_any x b W
                        obtain ⟨z, hz⟩ : ∃ x, x = l[m]! := ⟨_, rfl⟩
                        have hokz : z.ok := by rw [hz, getElem!_pos l m hlm]; exact HOK.out _ (List.getElem_mem _)
                        have g0 : ∀ nq : Cls (Lows wr), nq.w.cell? ⟨bb, o + m * 10, none⟩ = some (.bool z.e.a.v6) := fun nq => by rw [hz]; exact peer_at (low_trans'' HLW.out nq.h) hb hcc hlm (j := 0) rfl
                        have g1 : ∀ nq : Cls (Lows wr), nq.w.cell? ⟨bb, o + m * 10 + 1, none⟩ = some (.int .u64 z.e.a.hi) := fun nq => by rw [hz]; exact peer_at (low_trans'' HLW.out nq.h) hb hcc hlm (j := 1) rfl
                        have g2 : ∀ nq : Cls (Lows wr), nq.w.cell? ⟨bb, o + m * 10 + 2, none⟩ = some (.int .u64 z.e.a.lo) := fun nq => by rw [hz]; exact peer_at (low_trans'' HLW.out nq.h) hb hcc hlm (j := 2) rfl
                        have g3 : ∀ nq : Cls (Lows wr), nq.w.cell? ⟨bb, o + m * 10 + 3, none⟩ = some (.int .i64 z.e.n) := fun nq => by rw [hz]; exact peer_at (low_trans'' HLW.out nq.h) hb hcc hlm (j := 3) rfl
                        have g4 : ∀ nq : Cls (Lows wr), nq.w.cell? ⟨bb, o + m * 10 + 4, none⟩ = some (.bool z.i) := fun nq => by rw [hz]; exact peer_at (low_trans'' HLW.out nq.h) hb hcc hlm (j := 4) rfl
                        have g5 : ∀ nq : Cls (Lows wr), nq.w.cell? ⟨bb, o + m * 10 + 5, none⟩ = some (.int .i64 z.t) := fun nq => by rw [hz]; exact peer_at (low_trans'' HLW.out nq.h) hb hcc hlm (j := 5) rfl
                        have g6 : ∀ nq : Cls (Lows wr), nq.w.cell? ⟨bb, o + m * 10 + 6, none⟩ = some (.int .i64 z.c.p) := fun nq => by rw [hz]; exact peer_at (low_trans'' HLW.out nq.h) hb hcc hlm (j := 6) rfl
                        have g7 : ∀ nq : Cls (Lows wr), nq.w.cell? ⟨bb, o + m * 10 + 7, none⟩ = some (.int .i64 z.c.a) := fun nq => by rw [hz]; exact peer_at (low_trans'' HLW.out nq.h) hb hcc hlm (j := 7) rfl
                        have g8 : ∀ nq : Cls (Lows wr), nq.w.cell? ⟨bb, o + m * 10 + 8, none⟩ = some (.int .i64 z.g) := fun nq => by rw [hz]; exact peer_at (low_trans'' HLW.out nq.h) hb hcc hlm (j := 8) rfl
                        have g9 : ∀ nq : Cls (Lows wr), nq.w.cell? ⟨bb, o + m * 10 + 9, none⟩ = some (.int .i64 z.k) := fun nq => by rw [hz]; exact peer_at (low_trans'' HLW.out nq.h) hb hcc hlm (j := 9) rfl
                        have Hz := Lib.hid hz
                        clear hz
                        have KA : Hid (∀ W, Calls Try.prog 34 #[.agg #[.bool x.e.a.v6, .int .u64 x.e.a.hi, .int .u64 x.e.a.lo, .int .i64 x.e.n, .bool x.i, .int .i64 x.t, .int .i64 x.c.p, .int .i64 x.c.a, .int .i64 x.g, .int .i64 x.k], .agg #[.bool z.e.a.v6, .int .u64 z.e.a.hi, .int .u64 z.e.a.lo, .int .i64 z.e.n, .bool z.i, .int .i64 z.t, .int .i64 z.c.p, .int .i64 z.c.a, .int .i64 z.g, .int .i64 z.k], .int .i64 b, .int .u64 (s : Nat)] W fun e w' => e = .returned (.bool (aheadR x z b s)) ∧ Below W.heap.size W w') := Lib.hid fun W => rahead_any x z b s W hokx hokz HS.out
                        rw [show countsR x b = true from by rw [Hx.out]; exact hq] at KC
                        rw [show aheadR x z b s = false from by rw [Hx.out, Hz.out]; exact hA] at KA
                        have HN := Lib.hid (pickU_worse (i := i) HP.out hA)
                        clear hu hq hokx hokz hcc hb hA
                        go_wp2_with fail
                        refine Cls.region (Lows wr) (by kernel_rfl) (by kernel_rfl) (low_drewN (Below.refl _ _) 1) ?_
                        (try dsimp only [List.append])
                        repeat (go_big_quiet_step (first | fail | (with_reducible exact Cls.call ((lows_call KC).out _ (Cls.h _))) | (with_reducible exact Cls.call ((lows_call KA).out _ (Cls.h _)))))
                        refine wpQuiet_nil ?_
                        intro n9
                        have hk9 := n9.h
                        generalize n9.w = w9 at hk9 ⊢
                        clear hne n9 hu0 f0 f1 f2 f3 f4 f5 f6 f7 f8 f9 KC g0 g1 g2 g3 g4 g5 g6 g7 g8 g9 KA
                        go_wp2_with fail
                        go_roundw
                        case rel => exact ⟨i + 1, (m : Int), rfl, by go_num, by omega, HN, Lib.hid (low_trans HLI.out hk9)⟩
                        case measure => simp [intOf]; omega
              · have hliz : ¬ (i : Int) < (l.length : Int) := by omega
                have hie : i = l.length := by omega
                subst hie
                have HP2 : Hid (PickU l b s (upto S (ordX l b s S) k) l.length a) := Lib.hid (by rw [← HO.out]; exact HP.out)
                by_cases ha : a < 0
                · have HE : Hid (upto S O (k + 1) = upto S O k) := Lib.hid (by
                    have k2 := pickU_none HP2.out ha
                    rw [← HO.out] at k2
                    exact upto_over S (by omega) k2)
                  have haz : ¬ (0 : Int) ≤ a := by omega
                  have HB9 := Lib.hid (HBW.out.on HLI.out)
                  have HT9 := Lib.hid (HTW.out.trans (Bt.of HLI.out))
                  have HK2 : Hid (k + 1 ≤ n.toNat) := Lib.hid (by omega)
                  clear HP HP2 HBW HTW HLI
                  go_wp2_with fail
                  go_roundw
                  case rel => exact ⟨k + 1, by go_num, by omega, HK2, Lib.hid (by rw [HE.out]; exact HB9.out), HT9⟩
                  case measure => simp [intOf]; omega
                · obtain ⟨m, rfl⟩ : ∃ m : Nat, a = (m : Int) := ⟨a.toNat, by omega⟩
                  have hP := pickU_one HP2.out
                  rw [← HO.out] at hP
                  have hlm := hP.2.2
                  have hlmz : (m : Int) < (l.length : Int) := by omega
                  have hmz : (0 : Int) ≤ (m : Int) := by omega
                  have HB9 := Lib.hid (HBW.out.on HLI.out)
                  have u0 : wr.cell? ⟨w.heap.size + 1, m, none⟩ = some (.bool (upto S O k m)) := HB9.out.cell (by rw [ls_at _ hlm])
                  have u1 := HB9.out.free m
                  have HN : Hid (Blk (wr.setCell ⟨w.heap.size + 1, m, none⟩ (.bool true)) (w.heap.size + 1) 4 (ls l.length (bv (upto S O (k + 1))))) := Lib.hid (by rw [← upto_set hP.1 hP.2.1 hlm]; exact HB9.out.set m _)
                  have HT9 : Hid (Bt (w.heap.size + 1) W4 (wr.setCell ⟨w.heap.size + 1, m, none⟩ (.bool true))) := Lib.hid ((HTW.out.trans (Bt.of HLI.out)).trans (Bt.setCell _ _ _ _))
                  have HK2 : Hid (k + 1 ≤ n.toNat) := Lib.hid (by omega)
                  clear HP HP2 HBW HTW HLI hP HB9
                  go_wp2_with fail
                  go_roundw
                  case rel => exact ⟨k + 1, by go_num, by omega, HK2, HN, HT9⟩
                  case measure => simp [intOf]; omega
          · have hklz : ¬ (k : Int) < (l.length : Int) := by omega
            have HE : Hid (upto S O k = savedR l q s b) := Lib.hid (by rw [HSN.out]; exact upto_done HOL.out hkl HKN.out (Or.inr (by omega)))
            go_wp2_with fail
            refine (KQ.out _).mono ?_; rintro e9 w1 ⟨rfl, hbq⟩
            have HB9 := Lib.hid (HB.out.on hbq)
            have HT9 := Lib.hid (HT.out.trans (Bt.of hbq))
            clear hbq KQ q0 q1 q2 q3
            go_wp2_with fail
            go_roundw
            case rel => exact ⟨b, b + 1, by go_num, by omega, by omega, Lib.hid (by rw [← HE.out]; exact HB9.out), HT9⟩
            case measure => simp [intOf]; omega
        · have HE : Hid (upto S O k = savedR l q s b) := Lib.hid (by rw [HSN.out]; exact upto_done HOL.out hkl HKN.out (Or.inl hkn))
          go_wp2_with fail
          refine (KQ.out _).mono ?_; rintro e9 w1 ⟨rfl, hbq⟩
          have HB9 := Lib.hid (HB.out.on hbq)
          have HT9 := Lib.hid (HT.out.trans (Bt.of hbq))
          clear hbq KQ q0 q1 q2 q3
          go_wp2_with fail
          go_roundw
          case rel => exact ⟨b, b + 1, by go_num, by omega, by omega, Lib.hid (by rw [← HE.out]; exact HB9.out), HT9⟩
          case measure => simp [intOf]; omega
    · have hb4z : ¬ (b : Int) ≤ 4 := by omega
      have HR : Hid (BoolsI wr (.slice (some ⟨w.heap.size + 1, 0, none⟩) l.length l.length) (ls l.length (savedR l q s i0))) := Lib.hid (bools_read HB0.out (Nat.le_refl _))
      have HE : Hid (4 = i0) := Lib.hid (by omega)
      have HL : Hid (Below w.heap.size w wr) := Lib.hid (L0.out.trans (HT0.out.low (Nat.le_succ _) L0.out.size))
      clear HB0 hib
      go_wp2_with fail
      go_ret
      exact ⟨_, rfl, by rw [HE.out]; exact HR.out, HL.out⟩
end Go.Proofs.Ythmcggbmeabpmaa.Sh
/- The document's own answers for layer 19 (shield): Left, Inside; lists of bools compared. -/
namespace Go.Proofs.Ythmcggbmeabpmaa.Sh
set_option maxRecDepth 100000
open Go.ChangeShapes Go.WideShapes Go.ChangeAt Go.RowKit
open Dec Words V4 V6 Ad Ci En Sat Ha Pe Stb Gr Mi Ra Go.Deep
set_option linter.unusedVariables false
end Go.Proofs.Ythmcggbmeabpmaa.Sh
