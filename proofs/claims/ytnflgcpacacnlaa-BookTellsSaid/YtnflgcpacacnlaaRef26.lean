/- The document's answers of layer 26: Find, has, Count, Right, Set, Down; two books compared. -/
import Derived.Test.YtnflgcpacacnlaaBookOps
namespace Go.Proofs.Ytnflgcpacacnlaa.Bo
set_option maxRecDepth 100000
open Go.ChangeShapes Go.WideShapes Go.ChangeAt Go.RowKit
open Ad Ci En Sat Bk Et Go.Deep
set_option linter.unusedVariables false
set_option maxHeartbeats 4000000 in
theorem rfindY_any (v : Value) (l : List Ey) (E : Endp) (w : World) (h : Books w v l) (hl : l.length ≤ 1000000) :
    Calls Try.prog 12 #[v, .agg #[.bool E.a.v6, .int .u64 E.a.hi, .int .u64 E.a.lo, .int .i64 E.n]] w fun e w' => e = .returned (.int .i64 (findR l E)) ∧ Below w.heap.size w w' := by
  have L0 : Hid (Lows w (w.alloc (.cells #[.bool E.a.v6, .int .u64 E.a.hi, .int .u64 E.a.lo, .int .i64 E.n] 27))) := Lib.hid (Lows.alloc (Lows.self w) _)
  have OB := Lib.hid (Blk.new w #[.bool E.a.v6, .int .u64 E.a.hi, .int .u64 E.a.lo, .int .i64 E.n] 27)
  obtain ⟨A, c, rfl, hc, _, hcell⟩ := h
  have HC := Lib.hid hcell
  clear hcell
  go_enter Try.func12, Try.ntmps12
  go_wp2_with fail
  go_loopw [5] (fun vi wr => ∃ k : Nat, vi = .int .i64 k ∧ k ≤ l.length ∧ Hid (∀ i, i < l.length → i < k → isE E (l[i]!) = false) ∧ Hid (Lows (w.alloc (.cells #[.bool E.a.v6, .int .u64 E.a.hi, .int .u64 E.a.lo, .int .i64 E.n] 27)) wr)) (fun vi _ => l.length - (intOf vi).toNat)
  case atStart => exact ⟨0, rfl, Nat.zero_le _, Lib.hid (fun _ _ h => absurd h (Nat.not_lt_zero _)), Lib.hid (Lows.self _)⟩
  case round =>
    obtain ⟨k, rfl, hk, HN, HL⟩ := hrel
    by_cases hlt : k < l.length
    · have hltz : (k : Int) < (l.length : Int) := by omega
      obtain ⟨bb, o, rfl, hb, hcc⟩ := HC.out (by omega)
      obtain ⟨x, hx⟩ : ∃ x, x = l[k]! := ⟨_, rfl⟩
      have hne : Nonempty (Cls (Lows wr)) := ⟨⟨_, Lows.self _⟩⟩
      have HLW : Hid (Below w.heap.size w wr) := Lib.hid (low_trans L0.out HL.out)
      have f0 : ∀ nq : Cls (Lows wr), nq.w.cell? ⟨bb, o + k * 7, none⟩ = some (.bool x.e.a.v6) := fun nq => by rw [hx]; exact entry_at (lowT HLW.out nq.h) hb hcc hlt (j := 0) rfl
      have f1 : ∀ nq : Cls (Lows wr), nq.w.cell? ⟨bb, o + k * 7 + 1, none⟩ = some (.int .u64 x.e.a.hi) := fun nq => by rw [hx]; exact entry_at (lowT HLW.out nq.h) hb hcc hlt (j := 1) rfl
      have f2 : ∀ nq : Cls (Lows wr), nq.w.cell? ⟨bb, o + k * 7 + 2, none⟩ = some (.int .u64 x.e.a.lo) := fun nq => by rw [hx]; exact entry_at (lowT HLW.out nq.h) hb hcc hlt (j := 2) rfl
      have f3 : ∀ nq : Cls (Lows wr), nq.w.cell? ⟨bb, o + k * 7 + 3, none⟩ = some (.int .i64 x.e.n) := fun nq => by rw [hx]; exact entry_at (lowT HLW.out nq.h) hb hcc hlt (j := 3) rfl
      have g : ∀ nq : Cls (Lows wr), Blk nq.w w.heap.size 27 [.bool E.a.v6, .int .u64 E.a.hi, .int .u64 E.a.lo, .int .i64 E.n] := fun nq => (OB.out.on HL.out).on nq.h
      have g0 : ∀ nq : Cls (Lows wr), nq.w.cell? ⟨w.heap.size, 0, none⟩ = some (.bool E.a.v6) := fun nq => (g nq).cell (j := 0) rfl
      have g1 : ∀ nq : Cls (Lows wr), nq.w.cell? ⟨w.heap.size, 1, none⟩ = some (.int .u64 E.a.hi) := fun nq => (g nq).cell (j := 1) rfl
      have g2 : ∀ nq : Cls (Lows wr), nq.w.cell? ⟨w.heap.size, 2, none⟩ = some (.int .u64 E.a.lo) := fun nq => (g nq).cell (j := 2) rfl
      have g3 : ∀ nq : Cls (Lows wr), nq.w.cell? ⟨w.heap.size, 3, none⟩ = some (.int .i64 E.n) := fun nq => (g nq).cell (j := 3) rfl
      have EQ := fun W => eqEnd x.e E W
      have HX := Lib.hid hx
      have HS : Hid (isE E x = sameE x.e E) := Lib.hid rfl
      clear hcc hb hx g
      cases hq : sameE x.e E with
      | false =>
        rw [hq] at EQ
        have HN2 : Hid (∀ i, i < l.length → i < k + 1 → isE E (l[i]!) = false) := Lib.hid fun i h hi => by
          rcases Nat.lt_succ_iff_lt_or_eq.1 hi with h2 | rfl
          · exact HN.out i h h2
          · rw [← HX.out, HS.out]; exact hq
        clear hq HX
        go_wp2_with fail
        refine Cls.region (Lows wr) (by kernel_rfl) (by kernel_rfl) (low_drewN (Below.refl _ _) 1) ?_
        (try dsimp only [List.append])
        repeat (go_big_quiet_step (first | fail))
        refine wpQuiet_nil ?_
        intro n9
        have hk9 := n9.h
        generalize n9.w = w9 at hk9 ⊢
        clear hne n9 EQ f0 f1 f2 f3 g0 g1 g2 g3
        go_wp2_with fail
        go_roundw
        case rel => exact ⟨k + 1, by go_num, by omega, HN2, Lib.hid (low_trans HL.out hk9)⟩
        case measure => simp [intOf]; omega
      | true =>
        rw [hq] at EQ
        have HE : Hid (findR l E = k) := Lib.hid (posY_hit hlt HN.out (by rw [← HX.out, HS.out]; exact hq)).1
        clear hq HX
        go_wp2_with fail
        refine Cls.region (Lows wr) (by kernel_rfl) (by kernel_rfl) (low_drewN (Below.refl _ _) 1) ?_
        (try dsimp only [List.append])
        repeat (go_big_quiet_step (first | fail))
        refine wpQuiet_nil ?_
        intro n9
        have hk9 := n9.h
        generalize n9.w = w9 at hk9 ⊢
        clear hne n9 EQ f0 f1 f2 f3 g0 g1 g2 g3
        go_wp2_with fail
        go_ret
        exact ⟨by rw [HE.out]; rfl, low_trans HLW.out hk9⟩
    · have hltz : ¬ (k : Int) < (l.length : Int) := by omega
      have HE : Hid (findR l E = -1) := Lib.hid (posY_miss fun i h => HN.out i h (by omega)).1
      have HLW : Hid (Below w.heap.size w wr) := Lib.hid (low_trans L0.out HL.out)
      go_wp2_with fail
      go_ret
      exact ⟨by rw [HE.out]; rfl, HLW.out⟩
set_option maxHeartbeats 4000000 in
theorem rhasE_any (v : Value) (es : List Endp) (E : Endp) (w : World) (h : Ends w v es) (hl : es.length ≤ 1000000) :
    Calls Try.prog 31 #[v, .agg #[.bool E.a.v6, .int .u64 E.a.hi, .int .u64 E.a.lo, .int .i64 E.n]] w fun e w' => e = .returned (.bool (hasR es E)) ∧ Below w.heap.size w w' := by
  have L0 : Hid (Lows w (w.alloc (.cells #[.bool E.a.v6, .int .u64 E.a.hi, .int .u64 E.a.lo, .int .i64 E.n] 27))) := Lib.hid (Lows.alloc (Lows.self w) _)
  have OB := Lib.hid (Blk.new w #[.bool E.a.v6, .int .u64 E.a.hi, .int .u64 E.a.lo, .int .i64 E.n] 27)
  obtain ⟨A, c, rfl, hc, _, hcell⟩ := h
  have HC := Lib.hid hcell
  clear hcell
  go_enter Try.func31, Try.ntmps31
  go_wp2_with fail
  go_loopw [5] (fun vi wr => ∃ k : Nat, vi = .int .i64 k ∧ k ≤ es.length ∧ Hid (hasR (es.take k) E = false) ∧ Hid (Lows (w.alloc (.cells #[.bool E.a.v6, .int .u64 E.a.hi, .int .u64 E.a.lo, .int .i64 E.n] 27)) wr)) (fun vi _ => es.length - (intOf vi).toNat)
  case atStart => exact ⟨0, rfl, Nat.zero_le _, Lib.hid rfl, Lib.hid (Lows.self _)⟩
  case round =>
    obtain ⟨k, rfl, hk, HN, HL⟩ := hrel
    by_cases hlt : k < es.length
    · have hltz : (k : Int) < (es.length : Int) := by omega
      obtain ⟨bb, o, rfl, hb, hcc⟩ := HC.out (by omega)
      obtain ⟨x, hx⟩ : ∃ x, x = es[k]! := ⟨_, rfl⟩
      have hne : Nonempty (Cls (Lows wr)) := ⟨⟨_, Lows.self _⟩⟩
      have HLW : Hid (Below w.heap.size w wr) := Lib.hid (low_trans L0.out HL.out)
      have f0 : ∀ nq : Cls (Lows wr), nq.w.cell? ⟨bb, o + k * 4, none⟩ = some (.bool x.a.v6) := fun nq => by rw [hx]; exact end_at (lowT HLW.out nq.h) hb hcc hlt (j := 0) rfl
      have f1 : ∀ nq : Cls (Lows wr), nq.w.cell? ⟨bb, o + k * 4 + 1, none⟩ = some (.int .u64 x.a.hi) := fun nq => by rw [hx]; exact end_at (lowT HLW.out nq.h) hb hcc hlt (j := 1) rfl
      have f2 : ∀ nq : Cls (Lows wr), nq.w.cell? ⟨bb, o + k * 4 + 2, none⟩ = some (.int .u64 x.a.lo) := fun nq => by rw [hx]; exact end_at (lowT HLW.out nq.h) hb hcc hlt (j := 2) rfl
      have f3 : ∀ nq : Cls (Lows wr), nq.w.cell? ⟨bb, o + k * 4 + 3, none⟩ = some (.int .i64 x.n) := fun nq => by rw [hx]; exact end_at (lowT HLW.out nq.h) hb hcc hlt (j := 3) rfl
      have g : ∀ nq : Cls (Lows wr), Blk nq.w w.heap.size 27 [.bool E.a.v6, .int .u64 E.a.hi, .int .u64 E.a.lo, .int .i64 E.n] := fun nq => (OB.out.on HL.out).on nq.h
      have g0 : ∀ nq : Cls (Lows wr), nq.w.cell? ⟨w.heap.size, 0, none⟩ = some (.bool E.a.v6) := fun nq => (g nq).cell (j := 0) rfl
      have g1 : ∀ nq : Cls (Lows wr), nq.w.cell? ⟨w.heap.size, 1, none⟩ = some (.int .u64 E.a.hi) := fun nq => (g nq).cell (j := 1) rfl
      have g2 : ∀ nq : Cls (Lows wr), nq.w.cell? ⟨w.heap.size, 2, none⟩ = some (.int .u64 E.a.lo) := fun nq => (g nq).cell (j := 2) rfl
      have g3 : ∀ nq : Cls (Lows wr), nq.w.cell? ⟨w.heap.size, 3, none⟩ = some (.int .i64 E.n) := fun nq => (g nq).cell (j := 3) rfl
      have EQ := fun W => eqEnd x E W
      have HX := Lib.hid (has_next hlt E)
      rw [← hx] at HX
      have HT : Hid (hasR es E = (hasR (es.take (k + 1)) E || hasR (es.drop (k + 1)) E)) := Lib.hid (by unfold hasR; rw [← List.any_append, List.take_append_drop])
      clear hcc hb hx g
      cases hq : sameE x E with
      | false =>
        rw [hq] at EQ HX
        have HN2 : Hid (hasR (es.take (k + 1)) E = false) := Lib.hid (by rw [HX.out, HN.out]; rfl)
        clear hq HX
        go_wp2_with fail
        refine Cls.region (Lows wr) (by kernel_rfl) (by kernel_rfl) (low_drewN (Below.refl _ _) 1) ?_
        (try dsimp only [List.append])
        repeat (go_big_quiet_step (first | fail))
        refine wpQuiet_nil ?_
        intro n9
        have hk9 := n9.h
        generalize n9.w = w9 at hk9 ⊢
        clear hne n9 EQ f0 f1 f2 f3 g0 g1 g2 g3
        go_wp2_with fail
        go_roundw
        case rel => exact ⟨k + 1, by go_num, by omega, HN2, Lib.hid (low_trans HL.out hk9)⟩
        case measure => simp [intOf]; omega
      | true =>
        rw [hq] at EQ HX
        have HE : Hid (hasR es E = true) := Lib.hid (by rw [HT.out, HX.out]; simp)
        clear hq HX
        go_wp2_with fail
        refine Cls.region (Lows wr) (by kernel_rfl) (by kernel_rfl) (low_drewN (Below.refl _ _) 1) ?_
        (try dsimp only [List.append])
        repeat (go_big_quiet_step (first | fail))
        refine wpQuiet_nil ?_
        intro n9
        have hk9 := n9.h
        generalize n9.w = w9 at hk9 ⊢
        clear hne n9 EQ f0 f1 f2 f3 g0 g1 g2 g3
        go_wp2_with fail
        go_ret
        exact ⟨by rw [HE.out]; rfl, low_trans HLW.out hk9⟩
    · have hltz : ¬ (k : Int) < (es.length : Int) := by omega
      have HE : Hid (hasR es E = false) := Lib.hid (by rw [← has_done (es := es) (i := k) (by omega)]; exact HN.out)
      have HLW : Hid (Below w.heap.size w wr) := Lib.hid (low_trans L0.out HL.out)
      go_wp2_with fail
      go_ret
      exact ⟨by rw [HE.out]; rfl, HLW.out⟩
set_option maxHeartbeats 4000000 in
theorem rcount_any (v : Value) (l : List Ey) (s : Int) (w : World) (h : Books w v l) (hl : l.length ≤ 900000) :
    Calls Try.prog 17 #[v, .int .i64 s] w fun e w' => e = .returned (.int .i64 (countR l s)) ∧ Below w.heap.size w w' := by
  obtain ⟨A, c, rfl, hc, _, hcell⟩ := h
  have HC := Lib.hid hcell
  clear hcell hc
  go_enter Try.func17, Try.ntmps17
  go_wp2_with fail
  go_loopw [5, 6] (fun vr vi wr => ∃ (i m : Nat), vr = .int .i64 m ∧ vi = .int .i64 i ∧ i ≤ l.length ∧ m ≤ i ∧ Hid (m = countR (l.take i) s) ∧ Hid (Below w.heap.size w wr)) (fun _ vi _ => l.length - (intOf vi).toNat)
  case atStart => exact ⟨0, 0, rfl, rfl, Nat.zero_le _, Nat.le_refl _, Lib.hid rfl, Lib.hid (Below.refl _ _)⟩
  case round =>
    obtain ⟨i, m, rfl, rfl, hi, hmi, HM, HL⟩ := hrel
    by_cases hli : i < l.length
    · have hliz : (i : Int) < (l.length : Int) := by omega
      obtain ⟨bb, o, rfl, hb, hcc⟩ := HC.out (by omega)
      obtain ⟨x, hx⟩ : ∃ x, x = l[i]! := ⟨_, rfl⟩
      have c0 : wr.cell? ⟨bb, o + i * 7, none⟩ = some (.bool x.e.a.v6) := entry_at HL.out hb hcc hli (j := 0) (by rw [← hx]; rfl)
      have c1 : wr.cell? ⟨bb, o + i * 7 + 1, none⟩ = some (.int .u64 x.e.a.hi) := entry_at HL.out hb hcc hli (j := 1) (by rw [← hx]; rfl)
      have c2 : wr.cell? ⟨bb, o + i * 7 + 2, none⟩ = some (.int .u64 x.e.a.lo) := entry_at HL.out hb hcc hli (j := 2) (by rw [← hx]; rfl)
      have c3 : wr.cell? ⟨bb, o + i * 7 + 3, none⟩ = some (.int .i64 x.e.n) := entry_at HL.out hb hcc hli (j := 3) (by rw [← hx]; rfl)
      have c4 : wr.cell? ⟨bb, o + i * 7 + 4, none⟩ = some (.int .i64 x.st) := entry_at HL.out hb hcc hli (j := 4) (by rw [← hx]; rfl)
      have c5 : wr.cell? ⟨bb, o + i * 7 + 5, none⟩ = some (.int .i64 x.f) := entry_at HL.out hb hcc hli (j := 5) (by rw [← hx]; rfl)
      have c6 : wr.cell? ⟨bb, o + i * 7 + 6, none⟩ = some (.int .i64 x.nx) := entry_at HL.out hb hcc hli (j := 6) (by rw [← hx]; rfl)
      have HN := Lib.hid (count_next hli s)
      rw [← hx] at HN
      clear hcc hb hx
      by_cases hq : x.st = s
      · have hqb : (x.st == s) = true := by rw [beq_iff_eq]; exact hq
        have HY : Hid (m + 1 = countR (l.take (i + 1)) s) := Lib.hid (by rw [HN.out, if_pos hq, ← HM.out])
        clear hq HN HM
        go_wp2_with fail
        go_roundw
        case rel => exact ⟨i + 1, m + 1, by go_num, by go_num, by omega, by omega, HY, HL⟩
        case measure => simp [intOf]; omega
      · have hqb : (x.st == s) = false := by rw [beq_eq_false_iff_ne]; exact hq
        have HY : Hid (m = countR (l.take (i + 1)) s) := Lib.hid (by rw [HN.out, if_neg hq, ← HM.out]; rfl)
        clear hq HN HM
        go_wp2_with fail
        go_roundw
        case rel => exact ⟨i + 1, m, rfl, by go_num, by omega, by omega, HY, HL⟩
        case measure => simp [intOf]; omega
    · have hliz : ¬ (i : Int) < (l.length : Int) := by omega
      have HY : Hid (m = countR l s) := Lib.hid (by rw [HM.out, List.take_of_length_le (by omega)])
      clear HM
      go_wp2_with fail
      go_ret
      exact ⟨by rw [HY.out]; rfl, HL.out⟩
set_option maxHeartbeats 8000000 in
theorem rrightL_any (v : Value) (l : List Ey) (w : World) (h : Books w v l) (hok : ∀ x ∈ l, x.ok) (hl : l.length ≤ 1000000) :
    Calls Try.prog 10 #[v] w fun e w' => e = .returned (.bool (rightB l)) ∧ Below w.heap.size w w' := by
  obtain ⟨A, c, rfl, hc, _, hcell⟩ := h
  have HC := Lib.hid hcell
  have HOK := Lib.hid hok
  clear hcell hok
  go_enter Try.func10, Try.ntmps10
  go_wp2_with fail
  go_loopw [3] (fun vi wr => ∃ i : Nat, vi = .int .i64 i ∧ i ≤ l.length ∧ Hid (∀ j, j < i → rightY l[j]! = true ∧ ∀ k, k < j → cmpE l[k]!.e l[j]!.e < 0) ∧ Hid (Below w.heap.size w wr)) (fun vi _ => l.length - (intOf vi).toNat)
  case atStart => exact ⟨0, rfl, Nat.zero_le _, Lib.hid (fun _ h => absurd h (Nat.not_lt_zero _)), Lib.hid (Below.refl _ _)⟩
  case round =>
    obtain ⟨i, rfl, hi, HN, HL⟩ := hrel
    by_cases hli : i < l.length
    · have hliz : (i : Int) < (l.length : Int) := by omega
      obtain ⟨bb, o, rfl, hb, hcc⟩ := HC.out (by omega)
      obtain ⟨x, hx⟩ : ∃ x, x = l[i]! := ⟨_, rfl⟩
      have hxo : x.ok := by rw [hx, getElem!_pos l i hli]; exact HOK.out _ (List.getElem_mem _)
      have c0 : wr.cell? ⟨bb, o + i * 7, none⟩ = some (.bool x.e.a.v6) := entry_at HL.out hb hcc hli (j := 0) (by rw [← hx]; rfl)
      have c1 : wr.cell? ⟨bb, o + i * 7 + 1, none⟩ = some (.int .u64 x.e.a.hi) := entry_at HL.out hb hcc hli (j := 1) (by rw [← hx]; rfl)
      have c2 : wr.cell? ⟨bb, o + i * 7 + 2, none⟩ = some (.int .u64 x.e.a.lo) := entry_at HL.out hb hcc hli (j := 2) (by rw [← hx]; rfl)
      have c3 : wr.cell? ⟨bb, o + i * 7 + 3, none⟩ = some (.int .i64 x.e.n) := entry_at HL.out hb hcc hli (j := 3) (by rw [← hx]; rfl)
      have c4 : wr.cell? ⟨bb, o + i * 7 + 4, none⟩ = some (.int .i64 x.st) := entry_at HL.out hb hcc hli (j := 4) (by rw [← hx]; rfl)
      have c5 : wr.cell? ⟨bb, o + i * 7 + 5, none⟩ = some (.int .i64 x.f) := entry_at HL.out hb hcc hli (j := 5) (by rw [← hx]; rfl)
      have c6 : wr.cell? ⟨bb, o + i * 7 + 6, none⟩ = some (.int .i64 x.nx) := entry_at HL.out hb hcc hli (j := 6) (by rw [← hx]; rfl)
      have KR := Lib.hid (fun W => rrightY_any x hxo W)
      have HX := Lib.hid hx
      have HCC := Lib.hid hcc
      have HBB := Lib.hid hb
      have HXO := Lib.hid hxo
      clear hx hcc hb hxo
      cases hr : rightY x with
      | false =>
        rw [hr] at KR
        have ER : Hid (rightB l = false) := Lib.hid (right_no1 hli (by rw [← HX.out]; exact hr))
        clear hr HX
        go_wp2_with fail
        refine (KR.out _).mono ?_; rintro e w9 ⟨rfl, hb9⟩
        have L9 := Lib.hid (lowT HL.out hb9)
        clear hb9
        go_wp2_with fail
        go_ret
        exact ⟨by rw [ER.out]; rfl, L9.out⟩
      | true =>
        rw [hr] at KR
        have HR := Lib.hid hr
        clear hr
        go_wp2_with fail
        refine (KR.out _).mono ?_; rintro e w2 ⟨rfl, hb9⟩
        obtain ⟨wo, hwo⟩ : ∃ wo, wo = wr := ⟨_, rfl⟩
        rw [← hwo] at HL hb9 c0 c1 c2 c3 c4 c5 c6
        have L2 := Lib.hid (lowT HL.out hb9)
        clear hb9 KR c0 c1 c2 c3 c4 c5 c6 hwo
        go_wp2_with fail
        go_loopw [4] (fun vk wr => ∃ k : Nat, vk = .int .i64 k ∧ k ≤ i ∧ Hid (∀ m, m < k → cmpE l[m]!.e x.e < 0) ∧ Hid (Below w.heap.size w wr)) (fun vk _ => i - (intOf vk).toNat)
        case atStart => exact ⟨0, rfl, Nat.zero_le _, Lib.hid (fun _ h => absurd h (Nat.not_lt_zero _)), L2⟩
        case round =>
          obtain ⟨k, rfl, hk, HM, HL2⟩ := hrel
          by_cases hki : k < i
          · have hkiz : (k : Int) < (i : Int) := by omega
            have hkl : k < l.length := by omega
            have hklz : (k : Int) < (l.length : Int) := by omega
            obtain ⟨z, hz⟩ : ∃ z, z = l[k]! := ⟨_, rfl⟩
            have hzo : z.ok := by rw [hz, getElem!_pos l k hkl]; exact HOK.out _ (List.getElem_mem _)
            have hx := HX.out
            have hb := HBB.out
            have hcc := HCC.out
            have hne : Nonempty (Cls (Lows wr)) := ⟨⟨_, Lows.self _⟩⟩
            have f0 : ∀ nq : Cls (Lows wr), nq.w.cell? ⟨bb, o + k * 7, none⟩ = some (.bool z.e.a.v6) := fun nq => by rw [hz]; exact entry_at (lowT HL2.out nq.h) hb hcc hkl (j := 0) rfl
            have f1 : ∀ nq : Cls (Lows wr), nq.w.cell? ⟨bb, o + k * 7 + 1, none⟩ = some (.int .u64 z.e.a.hi) := fun nq => by rw [hz]; exact entry_at (lowT HL2.out nq.h) hb hcc hkl (j := 1) rfl
            have f2 : ∀ nq : Cls (Lows wr), nq.w.cell? ⟨bb, o + k * 7 + 2, none⟩ = some (.int .u64 z.e.a.lo) := fun nq => by rw [hz]; exact entry_at (lowT HL2.out nq.h) hb hcc hkl (j := 2) rfl
            have f3 : ∀ nq : Cls (Lows wr), nq.w.cell? ⟨bb, o + k * 7 + 3, none⟩ = some (.int .i64 z.e.n) := fun nq => by rw [hz]; exact entry_at (lowT HL2.out nq.h) hb hcc hkl (j := 3) rfl
            have g0 : ∀ nq : Cls (Lows wr), nq.w.cell? ⟨bb, o + i * 7, none⟩ = some (.bool x.e.a.v6) := fun nq => by rw [hx]; exact entry_at (lowT HL2.out nq.h) hb hcc hli (j := 0) rfl
            have g1 : ∀ nq : Cls (Lows wr), nq.w.cell? ⟨bb, o + i * 7 + 1, none⟩ = some (.int .u64 x.e.a.hi) := fun nq => by rw [hx]; exact entry_at (lowT HL2.out nq.h) hb hcc hli (j := 1) rfl
            have g2 : ∀ nq : Cls (Lows wr), nq.w.cell? ⟨bb, o + i * 7 + 2, none⟩ = some (.int .u64 x.e.a.lo) := fun nq => by rw [hx]; exact entry_at (lowT HL2.out nq.h) hb hcc hli (j := 2) rfl
            have g3 : ∀ nq : Cls (Lows wr), nq.w.cell? ⟨bb, o + i * 7 + 3, none⟩ = some (.int .i64 x.e.n) := fun nq => by rw [hx]; exact entry_at (lowT HL2.out nq.h) hb hcc hli (j := 3) rfl
            have KF := Lib.hid (fun W => rcompareE_any z.e x.e W hzo.he HXO.out.he)
            have HZ := Lib.hid hz
            clear hcc hb hz hx hzo
            obtain ⟨r, hr⟩ : ∃ r, r = cmpE z.e x.e := ⟨_, rfl⟩
            rw [← hr] at KF
            have HRR := Lib.hid hr
            clear hr
            by_cases hc0 : 0 ≤ r
            · have hcd : decide (0 ≤ r) = true := decide_eq_true hc0
              have ER : Hid (rightB l = false) := Lib.hid (right_no3 hli hki (by rw [← HX.out, ← HZ.out, ← HRR.out]; exact hc0))
              go_wp2_with fail
              refine Cls.region (Lows wr) (by kernel_rfl) (by kernel_rfl) (low_drewN (Below.refl _ _) 1) ?_
              (try dsimp only [List.append])
              repeat (go_big_quiet_step (first | fail | (with_reducible exact Cls.call ((lows_call KF).out _ (Cls.h _)))))
              refine wpQuiet_nil ?_
              intro n9
              have hk9 := n9.h
              generalize n9.w = w9 at hk9 ⊢
              clear hne n9 f0 f1 f2 f3 g0 g1 g2 g3
              go_wp2_with fail
              go_ret
              exact ⟨by rw [ER.out]; rfl, lowT HL2.out hk9⟩
            · have hcd : decide (0 ≤ r) = false := decide_eq_false hc0
              have HM2 : Hid (∀ m, m < k + 1 → cmpE l[m]!.e x.e < 0) := Lib.hid fun m hm => by
                rcases Nat.lt_succ_iff_lt_or_eq.1 hm with h2 | rfl
                · exact HM.out m h2
                · rw [← HZ.out, ← HRR.out]; omega
              go_wp2_with fail
              refine Cls.region (Lows wr) (by kernel_rfl) (by kernel_rfl) (low_drewN (Below.refl _ _) 1) ?_
              (try dsimp only [List.append])
              repeat (go_big_quiet_step (first | fail | (with_reducible exact Cls.call ((lows_call KF).out _ (Cls.h _)))))
              refine wpQuiet_nil ?_
              intro n9
              have hk9 := n9.h
              generalize n9.w = w9 at hk9 ⊢
              clear hne n9 f0 f1 f2 f3 g0 g1 g2 g3
              go_wp2_with fail
              go_roundw
              case rel => exact ⟨k + 1, by go_num, by omega, HM2, Lib.hid (lowT HL2.out hk9)⟩
              case measure => simp [intOf]; omega
          · have hkiz : ¬ (k : Int) < (i : Int) := by omega
            have HN2 : Hid (∀ j, j < i + 1 → rightY l[j]! = true ∧ ∀ k, k < j → cmpE l[k]!.e l[j]!.e < 0) := Lib.hid fun j hj => by
              rcases Nat.lt_succ_iff_lt_or_eq.1 hj with h2 | rfl
              · exact HN.out j h2
              · rw [← HX.out]
                exact ⟨HR.out, fun q hq => HM.out q (by omega)⟩
            go_wp2_with fail
            go_roundw
            case rel => exact ⟨i + 1, by go_num, by omega, HN2, HL2⟩
            case measure => simp [intOf]; omega
    · have hliz : ¬ (i : Int) < (l.length : Int) := by omega
      have ER : Hid (rightB l = true) := Lib.hid (right_all fun j hj => HN.out j (by omega))
      go_wp2_with fail
      go_ret
      exact ⟨by rw [ER.out]; rfl, HL.out⟩
set_option maxHeartbeats 8000000 in
theorem rsetL_any (v : Value) (l : List Ey) (y : Ey) (w : World) (h : Books w v l) (hl : l.length ≤ 900000) :
    Calls Try.prog 15 #[v, .agg #[.bool y.e.a.v6, .int .u64 y.e.a.hi, .int .u64 y.e.a.lo, .int .i64 y.e.n, .int .i64 y.st, .int .i64 y.f, .int .i64 y.nx]] w fun e w' => ∃ u, e = .returned u ∧ Books w' u (setR l y) ∧ Below w.heap.size w w' := by
  have LL : Hid (Below w.heap.size w (w.alloc (.cells #[.bool y.e.a.v6, .int .u64 y.e.a.hi, .int .u64 y.e.a.lo, .int .i64 y.e.n, .int .i64 y.st, .int .i64 y.f, .int .i64 y.nx] 29))) := Lib.hid ((Below.refl _ _).alloc (Nat.le_refl _) _)
  have OB := Lib.hid (Blk.new w #[.bool y.e.a.v6, .int .u64 y.e.a.hi, .int .u64 y.e.a.lo, .int .i64 y.e.n, .int .i64 y.st, .int .i64 y.f, .int .i64 y.nx] 29)
  have KF := Lib.hid (rfindY_any v l y.e (w.alloc (.cells #[.bool y.e.a.v6, .int .u64 y.e.a.hi, .int .u64 y.e.a.lo, .int .i64 y.e.n, .int .i64 y.st, .int .i64 y.f, .int .i64 y.nx] 29)) (h.below LL.out) (by omega))
  have PW : Hid (∀ W, Below w.heap.size w W → Books W v l) := Lib.hid fun W hW => h.below hW
  unfold findR at KF
  have HSL : Hid (∃ A c, v = .slice A l.length c) := Lib.hid (by obtain ⟨A, c, e, _⟩ := h; exact ⟨A, c, e⟩)
  obtain ⟨A, c, rfl⟩ := HSL.out
  clear h HSL
  rcases posY_is (isE y.e) l with ⟨hlt, e⟩ | ⟨hlt, e⟩
  · obtain ⟨k, hk⟩ : ∃ k, l.findIdx (isE y.e) = k := ⟨_, rfl⟩
    rw [hk] at hlt e
    have HI := Lib.hid hk
    rw [e] at KF
    clear e hk
    have hm1 : ¬ (k : Int) < 0 := by omega
    have hm2 : (0 : Int) ≤ (k : Int) := by omega
    go_enter Try.func15, Try.ntmps15
    go_wp2_with fail
    refine KF.out.mono ?_; rintro e9 w3 ⟨rfl, hb3⟩
    have OB3 := Lib.hid (OB.out.on hb3)
    have L3 := Lib.hid (low_trans LL.out hb3)
    clear hb3 KF OB LL
    obtain ⟨v2, w2, R2, O2, hbl⟩ := append_entries (B := w3.heap.size) (ownY_lit w3 (Nat.le_refl _)) (PW.out _ (lowT L3.out (Lows.alloc (Lows.self w3) _))) (by simp; omega) (by simp)
    rw [List.nil_append] at O2
    obtain ⟨g, cap, Z, rfl, hg, hcap, hB⟩ := ownY_blk O2 (by omega)
    have R1 := Lib.hid R2
    have hlw : Lows w3 w2 := (Lows.alloc (Lows.self w3) _).trans hbl
    have OB2 := Lib.hid (OB3.out.on hlw)
    have L2 := Lib.hid (low_trans L3.out hlw)
    have hklz : (k : Int) < (l.length : Int) := by omega
    have HKL := Lib.hid hlt
    have HB := Lib.hid hB
    have HC := Lib.hid hcap
    have HG : Hid (w.heap.size < g) := Lib.hid (by have := OB3.out.lt; omega)
    have ho : ∀ jj, jj < 7 → ∃ u, w2.cell? ⟨g, k * 7 + jj, none⟩ = some u := fun jj hjj => ⟨_, HB.out.cell (List.getElem?_eq_getElem (by rw [List.length_append, flat_len encY_len7]; have := HKL.out; omega))⟩
    obtain ⟨u0, g0⟩ := ho 0 (by decide)
    have k0 : w2.frozen? ⟨g, k * 7, none⟩ = false := HB.out.free _
    obtain ⟨u1, g1⟩ := ho 1 (by decide)
    have k1 : w2.frozen? ⟨g, k * 7 + 1, none⟩ = false := HB.out.free _
    obtain ⟨u2, g2⟩ := ho 2 (by decide)
    have k2 : w2.frozen? ⟨g, k * 7 + 2, none⟩ = false := HB.out.free _
    obtain ⟨u3, g3⟩ := ho 3 (by decide)
    have k3 : w2.frozen? ⟨g, k * 7 + 3, none⟩ = false := HB.out.free _
    obtain ⟨u4, g4⟩ := ho 4 (by decide)
    have k4 : w2.frozen? ⟨g, k * 7 + 4, none⟩ = false := HB.out.free _
    obtain ⟨u5, g5⟩ := ho 5 (by decide)
    have k5 : w2.frozen? ⟨g, k * 7 + 5, none⟩ = false := HB.out.free _
    obtain ⟨u6, g6⟩ := ho 6 (by decide)
    have k6 : w2.frozen? ⟨g, k * 7 + 6, none⟩ = false := HB.out.free _
    rw [Nat.add_zero] at g0
    have b0 := OB2.out.cell (j := 0) rfl
    have b1 := OB2.out.cell (j := 1) rfl
    have b2 := OB2.out.cell (j := 2) rfl
    have b3 := OB2.out.cell (j := 3) rfl
    have b4 := OB2.out.cell (j := 4) rfl
    have b5 := OB2.out.cell (j := 5) rfl
    have b6 := OB2.out.cell (j := 6) rfl
    have HQ := Lib.hid (put_entry HB.out HKL.out y)
    clear ho hB hg hcap hlt R2 O2 hbl hlw OB3 L3
    go_wp2_with (first
      | (at_builtin; refine wpList_append_run rfl (.tmp 14) (.tmp 15) _ _ rfl rfl _ _ _ _ rfl rfl R1.out ?_)
      | fail)
    go_ret
    exact ⟨_, rfl, by
      rw [set_hit HI.out]
      have hh := readsY HQ.out.1 (cap := cap) (by rw [List.length_set]; exact HC.out)
      rwa [List.length_set] at hh, HQ.out.2.below L2.out (by have := HG.out; omega) L2.out.size⟩
  · have HI := Lib.hid hlt
    rw [e] at KF
    clear e hlt
    go_enter Try.func15, Try.ntmps15
    go_wp2_with fail
    refine KF.out.mono ?_; rintro e9 w3 ⟨rfl, hb3⟩
    have OB3 := Lib.hid (OB.out.on hb3)
    have L3 := Lib.hid (low_trans LL.out hb3)
    clear hb3 KF OB LL
    go_wp2_with fail
    go_ret
    exact ⟨_, rfl, by rw [set_miss HI.out]; exact PW.out _ L3.out, L3.out⟩
set_option maxHeartbeats 8000000 in
theorem rdownL_any (v u0 : Value) (l : List Ey) (es : List Endp) (w : World) (h : Books w v l) (he : Ends w u0 es) (hl : l.length ≤ 900000) (hel : es.length ≤ 1000000) :
    Calls Try.prog 19 #[v, u0] w fun e w' => ∃ u, e = .returned u ∧ Books w' u (downR l es) ∧ Below w.heap.size w w' := by
  have KH : Hid (∀ W E, Below w.heap.size w W → Calls Try.prog 31 #[u0, .agg #[.bool E.a.v6, .int .u64 E.a.hi, .int .u64 E.a.lo, .int .i64 E.n]] W fun e w' => e = .returned (.bool (hasR es E)) ∧ Below W.heap.size W w') := Lib.hid fun W E hW => rhasE_any u0 es E W (he.below hW) hel
  have PW : Hid (∀ W, Below w.heap.size w W → Books W v l) := Lib.hid fun W hW => h.below hW
  obtain ⟨v2, w2, R2, O2, b2⟩ := append_entries (B := w.heap.size) (ownY_lit w (Nat.le_refl _)) (PW.out _ (Lows.alloc (Lows.self w) _)) (by simp; omega) (by simp)
  rw [List.nil_append] at O2
  have L2 : Hid (Lows w w2) := Lib.hid ((Lows.alloc (Lows.self w) _).trans b2)
  have R1 := Lib.hid R2
  clear h he R2 b2
  by_cases h0 : l.length = 0
  · obtain rfl : l = [] := List.eq_nil_of_length_eq_zero h0
    have HU := Lib.hid (ownY_books O2)
    obtain ⟨A, c, rfl, _, _, _⟩ := ownY_books O2
    clear O2 h0
    rw [show ([] : List Ey).length = 0 from rfl] at *
    go_enter Try.func19, Try.ntmps19
    go_wp2_with (first
      | (at_builtin; refine wpList_append_run rfl (.tmp 7) (.tmp 8) _ _ rfl rfl _ _ _ _ rfl rfl R1.out ?_)
      | fail)
    go_loopw [6] (fun vi wr => vi = .int .i64 0 ∧ Hid (Lows w2 wr)) (fun _ _ => 0)
    case atStart => exact ⟨rfl, Lib.hid (Lows.self _)⟩
    case round =>
      obtain ⟨rfl, HL⟩ := hrel
      go_wp2_with fail
      go_ret
      exact ⟨_, rfl, HU.out.below HL.out, lowT L2.out HL.out⟩
  · obtain ⟨g, cap, Z, rfl, hg, hcap, hB⟩ := ownY_blk O2 (by omega)
    have HB2 := Lib.hid hB
    have HG := Lib.hid hg
    have HCAP := Lib.hid hcap
    clear O2 h0 hB hg hcap
    go_enter Try.func19, Try.ntmps19
    go_wp2_with (first
      | (at_builtin; refine wpList_append_run rfl (.tmp 7) (.tmp 8) _ _ rfl rfl _ _ _ _ rfl rfl R1.out ?_)
      | fail)
    go_loopw [6] (fun vi wr => ∃ k : Nat, vi = .int .i64 k ∧ k ≤ l.length ∧ Hid (Blk wr g 29 (flat encY (dnR l es k) ++ Z)) ∧ Hid (Bt g w2 wr)) (fun vi _ => l.length - (intOf vi).toNat)
    case atStart => exact ⟨0, rfl, Nat.zero_le _, Lib.hid (by rw [dn_zero]; exact HB2.out), Lib.hid (Bt.refl _ _)⟩
    case round =>
      obtain ⟨k, rfl, hk, HB, HT⟩ := hrel
      by_cases hkl : k < l.length
      · have hklz : (k : Int) < (l.length : Int) := by omega
        obtain ⟨x, hx⟩ : ∃ x, x = l[k]! := ⟨_, rfl⟩
        have hkd : k < (dnR l es k).length := by rw [dn_len]; exact hkl
        have hxe : (dnR l es k)[k]! = x := by rw [dn_at es hkl]; exact hx.symm
        have c0 : wr.cell? ⟨g, k * 7, none⟩ = some (.bool x.e.a.v6) := cellY HB.out hkd (j := 0) (by rw [hxe]; rfl)
        have c1 : wr.cell? ⟨g, k * 7 + 1, none⟩ = some (.int .u64 x.e.a.hi) := cellY HB.out hkd (j := 1) (by rw [hxe]; rfl)
        have c2 : wr.cell? ⟨g, k * 7 + 2, none⟩ = some (.int .u64 x.e.a.lo) := cellY HB.out hkd (j := 2) (by rw [hxe]; rfl)
        have c3 : wr.cell? ⟨g, k * 7 + 3, none⟩ = some (.int .i64 x.e.n) := cellY HB.out hkd (j := 3) (by rw [hxe]; rfl)
        have c4 : wr.cell? ⟨g, k * 7 + 4, none⟩ = some (.int .i64 x.st) := cellY HB.out hkd (j := 4) (by rw [hxe]; rfl)
        have c5 : wr.cell? ⟨g, k * 7 + 5, none⟩ = some (.int .i64 x.f) := cellY HB.out hkd (j := 5) (by rw [hxe]; rfl)
        have c6 : wr.cell? ⟨g, k * 7 + 6, none⟩ = some (.int .i64 x.nx) := cellY HB.out hkd (j := 6) (by rw [hxe]; rfl)
        have HLW : Hid (Below w.heap.size w wr) := Lib.hid (HT.out.below L2.out HG.out L2.out.size)
        have KH1 := Lib.hid (KH.out wr x.e HLW.out)
        have HS := Lib.hid (fun hh => dn_skip es hkl hh)
        have HN := Lib.hid (dn_next es hkl)
        rw [← hx] at HS HN
        have HKD := Lib.hid hkd
        have HXE := Lib.hid hxe
        have HH : Hid (hitR es x = (x.st == 3 && hasR es x.e)) := Lib.hid rfl
        clear hxe hkd hx HB2
        by_cases h3 : x.st = 3
        · have hq : (x.st == 3) = true := by rw [beq_iff_eq]; exact h3
          cases hq2 : hasR es x.e with
          | false =>
            rw [hq2] at KH1
            have HSK := Lib.hid (HS.out (by rw [HH.out, hq2]; simp))
            clear h3 hq2 HS HN
            go_wp2_with fail
            refine KH1.out.mono ?_; rintro e9 w9 ⟨rfl, hb9⟩
            clear KH1 c0 c1 c2 c3 c4 c5 c6
            go_wp2_with fail
            go_roundw
            case rel => exact ⟨k + 1, by go_num, by omega, Lib.hid (by rw [← HSK.out]; exact HB.out.on hb9), Lib.hid (HT.out.trans (Bt.of hb9))⟩
            case measure => simp [intOf]; omega
          | true =>
            rw [hq2] at KH1
            have HE : Hid ((dnR l es k).set k (stateY x 1) = dnR l es (k + 1)) := Lib.hid (by rw [← HN.out]; unfold downY; rw [if_pos (by rw [HH.out, hq, hq2]; rfl)])
            clear h3 hq2 HS HN
            go_wp2_with fail
            refine KH1.out.mono ?_; rintro e9 w9 ⟨rfl, hb9⟩
            have HB9 := Lib.hid (HB.out.on hb9)
            have HT9 := Lib.hid (HT.out.trans (Bt.of hb9))
            have g4 : w9.cell? ⟨g, k * 7 + 4, none⟩ = some (.int .i64 x.st) := cellY HB9.out HKD.out (j := 4) (by rw [HXE.out]; rfl)
            have k4 : w9.frozen? ⟨g, k * 7 + 4, none⟩ = false := HB9.out.free _
            have HQ := Lib.hid (put_st HB9.out HKD.out 1)
            rw [HXE.out, HE.out] at HQ
            clear hb9 HB HT KH1 c0 c1 c2 c3 c4 c5 c6
            go_wp2_with fail
            go_roundw
            case rel => exact ⟨k + 1, by go_num, by omega, HQ, Lib.hid (HT9.out.trans (Bt.setCell _ _ _ _))⟩
            case measure => simp [intOf]; omega
        · have hq : (x.st == 3) = false := by rw [beq_eq_false_iff_ne]; exact h3
          have HSK := Lib.hid (HS.out (by rw [HH.out, hq]; rfl))
          clear h3 HS HN KH1
          go_wp2_with fail
          go_roundw
          case rel => exact ⟨k + 1, by go_num, by omega, Lib.hid (by rw [← HSK.out]; exact HB.out), HT⟩
          case measure => simp [intOf]; omega
      · have hklz : ¬ (k : Int) < (l.length : Int) := by omega
        have HR : Hid (Books wr (.slice (some ⟨g, 0, none⟩) l.length cap) (downR l es)) := Lib.hid (by
          have e := dn_done es (l := l) (k := k) (by omega)
          have hh := readsY HB.out (cap := cap) (by rw [dn_len]; exact HCAP.out)
          rwa [dn_len, e] at hh)
        have HLL : Hid (Below w.heap.size w wr) := Lib.hid (HT.out.below L2.out HG.out L2.out.size)
        go_wp2_with fail
        go_ret
        exact ⟨_, rfl, HR.out, HLL.out⟩
set_option maxHeartbeats 4000000 in
theorem sameBook_any (u1 u2 : Value) (L : List Ey) (w : World) (h1 : Books w u1 L) (h2 : Books w u2 L) (hl : L.length ≤ 1000000) :
    Calls Try.prog 13 #[u1, u2] w fun e w' => e = .returned (.bool true) ∧ Below w.heap.size w w' := by
  obtain ⟨A1, c1, rfl, hc1, _, hcell1⟩ := h1
  obtain ⟨A2, c2, rfl, hc2, _, hcell2⟩ := h2
  have HC1 := Lib.hid hcell1
  have HC2 := Lib.hid hcell2
  have z0 : ((L.length : Int) != (L.length : Int)) = false := by simp
  clear hcell1 hcell2
  go_enter Try.func13, Try.ntmps13
  go_wp2_with fail
  go_loopw [5] (fun vi wr => ∃ i : Nat, vi = .int .i64 i ∧ i ≤ L.length ∧ Hid (Lows w wr)) (fun vi _ => L.length - (intOf vi).toNat)
  case atStart => exact ⟨0, rfl, Nat.zero_le _, Lib.hid (Lows.self _)⟩
  case round =>
    obtain ⟨i, rfl, hi, HL⟩ := hrel
    by_cases hli : i < L.length
    · have hliz : (i : Int) < (L.length : Int) := by omega
      obtain ⟨b1, o1, rfl, hb1, hcc1⟩ := HC1.out (by omega)
      obtain ⟨b2, o2, rfl, hb2, hcc2⟩ := HC2.out (by omega)
      obtain ⟨x, hx⟩ : ∃ x, x = L[i]! := ⟨_, rfl⟩
      have NQ := fun W => neqEntry_self x W
      have hne : Nonempty (Cls (Lows wr)) := ⟨⟨_, Lows.self _⟩⟩
      have f0 : ∀ nq : Cls (Lows wr), nq.w.cell? ⟨b1, o1 + i * 7, none⟩ = some (.bool x.e.a.v6) := fun nq => by rw [hx]; exact entry_at (lowT HL.out nq.h) hb1 hcc1 hli (j := 0) rfl
      have f1 : ∀ nq : Cls (Lows wr), nq.w.cell? ⟨b1, o1 + i * 7 + 1, none⟩ = some (.int .u64 x.e.a.hi) := fun nq => by rw [hx]; exact entry_at (lowT HL.out nq.h) hb1 hcc1 hli (j := 1) rfl
      have f2 : ∀ nq : Cls (Lows wr), nq.w.cell? ⟨b1, o1 + i * 7 + 2, none⟩ = some (.int .u64 x.e.a.lo) := fun nq => by rw [hx]; exact entry_at (lowT HL.out nq.h) hb1 hcc1 hli (j := 2) rfl
      have f3 : ∀ nq : Cls (Lows wr), nq.w.cell? ⟨b1, o1 + i * 7 + 3, none⟩ = some (.int .i64 x.e.n) := fun nq => by rw [hx]; exact entry_at (lowT HL.out nq.h) hb1 hcc1 hli (j := 3) rfl
      have f4 : ∀ nq : Cls (Lows wr), nq.w.cell? ⟨b1, o1 + i * 7 + 4, none⟩ = some (.int .i64 x.st) := fun nq => by rw [hx]; exact entry_at (lowT HL.out nq.h) hb1 hcc1 hli (j := 4) rfl
      have f5 : ∀ nq : Cls (Lows wr), nq.w.cell? ⟨b1, o1 + i * 7 + 5, none⟩ = some (.int .i64 x.f) := fun nq => by rw [hx]; exact entry_at (lowT HL.out nq.h) hb1 hcc1 hli (j := 5) rfl
      have f6 : ∀ nq : Cls (Lows wr), nq.w.cell? ⟨b1, o1 + i * 7 + 6, none⟩ = some (.int .i64 x.nx) := fun nq => by rw [hx]; exact entry_at (lowT HL.out nq.h) hb1 hcc1 hli (j := 6) rfl
      have g0 : ∀ nq : Cls (Lows wr), nq.w.cell? ⟨b2, o2 + i * 7, none⟩ = some (.bool x.e.a.v6) := fun nq => by rw [hx]; exact entry_at (lowT HL.out nq.h) hb2 hcc2 hli (j := 0) rfl
      have g1 : ∀ nq : Cls (Lows wr), nq.w.cell? ⟨b2, o2 + i * 7 + 1, none⟩ = some (.int .u64 x.e.a.hi) := fun nq => by rw [hx]; exact entry_at (lowT HL.out nq.h) hb2 hcc2 hli (j := 1) rfl
      have g2 : ∀ nq : Cls (Lows wr), nq.w.cell? ⟨b2, o2 + i * 7 + 2, none⟩ = some (.int .u64 x.e.a.lo) := fun nq => by rw [hx]; exact entry_at (lowT HL.out nq.h) hb2 hcc2 hli (j := 2) rfl
      have g3 : ∀ nq : Cls (Lows wr), nq.w.cell? ⟨b2, o2 + i * 7 + 3, none⟩ = some (.int .i64 x.e.n) := fun nq => by rw [hx]; exact entry_at (lowT HL.out nq.h) hb2 hcc2 hli (j := 3) rfl
      have g4 : ∀ nq : Cls (Lows wr), nq.w.cell? ⟨b2, o2 + i * 7 + 4, none⟩ = some (.int .i64 x.st) := fun nq => by rw [hx]; exact entry_at (lowT HL.out nq.h) hb2 hcc2 hli (j := 4) rfl
      have g5 : ∀ nq : Cls (Lows wr), nq.w.cell? ⟨b2, o2 + i * 7 + 5, none⟩ = some (.int .i64 x.f) := fun nq => by rw [hx]; exact entry_at (lowT HL.out nq.h) hb2 hcc2 hli (j := 5) rfl
      have g6 : ∀ nq : Cls (Lows wr), nq.w.cell? ⟨b2, o2 + i * 7 + 6, none⟩ = some (.int .i64 x.nx) := fun nq => by rw [hx]; exact entry_at (lowT HL.out nq.h) hb2 hcc2 hli (j := 6) rfl
      clear hx hcc1 hcc2 hb1 hb2
      go_wp2_with fail
      refine Cls.region (Lows wr) (by kernel_rfl) (by kernel_rfl) (low_drewN (Below.refl _ _) 1) ?_
      (try dsimp only [List.append])
      repeat (go_big_quiet_step (first | fail))
      refine wpQuiet_nil ?_
      intro n9
      have hk9 := n9.h
      generalize n9.w = w9 at hk9 ⊢
      clear hne n9 NQ f0 f1 f2 f3 f4 f5 f6 g0 g1 g2 g3 g4 g5 g6
      go_wp2_with fail
      go_roundw
      case rel => exact ⟨i + 1, by go_num, by omega, Lib.hid (low_trans HL.out hk9)⟩
      case measure => simp [intOf]; omega
    · have hliz : ¬ (i : Int) < (L.length : Int) := by omega
      go_wp2_with fail
      go_ret
      exact ⟨rfl, HL.out⟩
end Go.Proofs.Ytnflgcpacacnlaa.Bo
