/- The document's answers for layer 7: which may be, and their texts. -/
import Derived.Test.YtefkolkagebffaaGreatDoorRef06All
import Derived.Test.YtefkolkagebffaaGreatDoorCidrLow
import Derived.Test.YtefkolkagebffaaGreatDoorCls
namespace Go.Proofs.YtefkolkagebffaaGreatDoor.Ci
set_option maxRecDepth 100000
open Go.ChangeShapes Go.WideShapes Go.ChangeAt Go.RowKit
open Dec Words V4 V6 Ad
set_option linter.unusedVariables false
theorem right_bits {n : Net} (hn : n.ok) (hm : makeB n.a n.n = true) : rightN n = true ↔ ∀ j, n.n.toNat ≤ j → j < bitsA n.a → bitN n.a j = 0 := by
  obtain ⟨h1, h2, h3⟩ := (makeB_iff _ _).1 hm
  rw [rightN_iff, first_bits h1 hn.1 (by omega)]
  exact ⟨fun h => h.2, fun h => ⟨hm, h⟩⟩
theorem right_no {n : Net} (h : makeB n.a n.n = false) : rightN n = false := by
  unfold rightN hasN; rw [h]; rfl
theorem bitN_two (a : Adr) (j : Nat) : bitN a j = 0 ∨ bitN a j = 1 := by unfold bitN; split <;> (try split) <;> omega
theorem bitA_in {a : Adr} {j : Nat} (h : j < bitsA a) : bitA a (j : Int) = (bitN a j : Nat) := by unfold bitA; rw [if_pos (by omega), Int.toNat_natCast]
set_option maxHeartbeats 4000000 in
theorem rrightN_A (n : Net) (w : World) (hn : n.ok) (hr : rightA n.a = false) :
    Calls Tryz.prog 43 #[.agg #[.bool n.a.v6, .int .u64 n.a.hi, .int .u64 n.a.lo, .int .i64 n.n]] w fun e w' => e = .returned (.bool (rightN n)) ∧ Below w.heap.size w w' := by
  have K1 : Hid (∀ W, ST n w W → Calls Tryz.prog 73 #[.agg #[.bool n.a.v6, .int .u64 n.a.hi, .int .u64 n.a.lo]] W fun e w' => e = .returned (.bool (rightA n.a)) ∧ ST n w w') := Lib.hid fun W h => (rright_any n.a W hn.1).mono fun e w' ⟨he, hb⟩ => ⟨he, ST.of (low_trans h.2.2.2.2 hb)⟩
  have K2 : Hid (∀ W, ST n w W → Calls Tryz.prog 74 #[.agg #[.bool n.a.v6, .int .u64 n.a.hi, .int .u64 n.a.lo]] W fun e w' => e = .returned (.int .i64 (bitsA n.a : Nat)) ∧ ST n w w') := Lib.hid fun W h => (rbits_any n.a W).mono fun e w' ⟨he, hb⟩ => ⟨he, ST.of (low_trans h.2.2.2.2 hb)⟩
  have JD : Hid (∀ W, ST n w W → ST n w W.drew) := Lib.hid fun W h => ST.of (low_drewN h.2.2.2.2 1)
  have JA : Hid (∀ W o, ST n w W → ST n w (W.alloc o)) := Lib.hid fun W o h => ST.of (Below.alloc h.2.2.2.2 h.2.2.2.2.size o)
  have E := Lib.hid (right_no (n := n) (by rw [← Bool.not_eq_true, makeB_iff]; simp [hr]))
  rw [hr] at K1
  clear hr
  have hS0 : ST n w (w.alloc (.cells #[.bool n.a.v6, .int .u64 n.a.hi, .int .u64 n.a.lo, .int .i64 n.n] 38)) := ST.of (Below.refl _ _)
  obtain ⟨k0, k1, k2, k3, hs⟩ := id hS0
  go_enter Tryz.func43, Tryz.ntmps43
  go_wp2_with fail
  have hne : Nonempty (Cls (ST n w)) := ⟨⟨_, hS0⟩⟩
  have f0 : ∀ q : Cls (ST n w), q.w.cell? ⟨w.heap.size, 0, none⟩ = some (.bool n.a.v6) := fun q => q.h.1
  have f1 : ∀ q : Cls (ST n w), q.w.cell? ⟨w.heap.size, 1, none⟩ = some (.int .u64 n.a.hi) := fun q => q.h.2.1
  have f2 : ∀ q : Cls (ST n w), q.w.cell? ⟨w.heap.size, 2, none⟩ = some (.int .u64 n.a.lo) := fun q => q.h.2.2.1
  have f3 : ∀ q : Cls (ST n w), q.w.cell? ⟨w.heap.size, 3, none⟩ = some (.int .i64 n.n) := fun q => q.h.2.2.2.1
  refine Cls.region (ST n w) (by kernel_rfl) (by kernel_rfl) (ST.of (low_drewN (Below.refl _ _) 1)) ?_
  repeat (go_big_quiet_step (first | (with_reducible exact Cls.call (K1.out _ (Cls.h _))) | (with_reducible exact Cls.call (K2.out _ (Cls.h _)))))
  refine wpQuiet_nil ?_
  intro n9
  have hk9 := n9.h
  generalize n9.w = w9 at hk9 ⊢
  clear hne n9 f0 f1 f2 f3
  obtain ⟨j0, j1, j2, j3, hs9⟩ := id hk9
  clear k0 k1 k2 k3 hs
  clear K1 K2 JD JA
  go_wp2_with fail
  go_ret
  exact ⟨ret_b E.out.symm, ((Below.refl _ _).alloc (Nat.le_refl _) _).trans (hs9.mono (by simp))⟩
set_option maxHeartbeats 4000000 in
theorem rrightN_B (n : Net) (w : World) (hn : n.ok) (hr : rightA n.a = true) (h0 : n.n < 0) :
    Calls Tryz.prog 43 #[.agg #[.bool n.a.v6, .int .u64 n.a.hi, .int .u64 n.a.lo, .int .i64 n.n]] w fun e w' => e = .returned (.bool (rightN n)) ∧ Below w.heap.size w w' := by
  have K1 : Hid (∀ W, ST n w W → Calls Tryz.prog 73 #[.agg #[.bool n.a.v6, .int .u64 n.a.hi, .int .u64 n.a.lo]] W fun e w' => e = .returned (.bool (rightA n.a)) ∧ ST n w w') := Lib.hid fun W h => (rright_any n.a W hn.1).mono fun e w' ⟨he, hb⟩ => ⟨he, ST.of (low_trans h.2.2.2.2 hb)⟩
  have K2 : Hid (∀ W, ST n w W → Calls Tryz.prog 74 #[.agg #[.bool n.a.v6, .int .u64 n.a.hi, .int .u64 n.a.lo]] W fun e w' => e = .returned (.int .i64 (bitsA n.a : Nat)) ∧ ST n w w') := Lib.hid fun W h => (rbits_any n.a W).mono fun e w' ⟨he, hb⟩ => ⟨he, ST.of (low_trans h.2.2.2.2 hb)⟩
  have JD : Hid (∀ W, ST n w W → ST n w W.drew) := Lib.hid fun W h => ST.of (low_drewN h.2.2.2.2 1)
  have JA : Hid (∀ W o, ST n w W → ST n w (W.alloc o)) := Lib.hid fun W o h => ST.of (Below.alloc h.2.2.2.2 h.2.2.2.2.size o)
  have E := Lib.hid (right_no (n := n) (by rw [← Bool.not_eq_true, makeB_iff]; simp; intro _ _; omega))
  rw [hr] at K1
  have hd0 : decide (n.n < 0) = true := decide_eq_true h0
  clear hr
  have hS0 : ST n w (w.alloc (.cells #[.bool n.a.v6, .int .u64 n.a.hi, .int .u64 n.a.lo, .int .i64 n.n] 38)) := ST.of (Below.refl _ _)
  obtain ⟨k0, k1, k2, k3, hs⟩ := id hS0
  go_enter Tryz.func43, Tryz.ntmps43
  go_wp2_with fail
  have hne : Nonempty (Cls (ST n w)) := ⟨⟨_, hS0⟩⟩
  have f0 : ∀ q : Cls (ST n w), q.w.cell? ⟨w.heap.size, 0, none⟩ = some (.bool n.a.v6) := fun q => q.h.1
  have f1 : ∀ q : Cls (ST n w), q.w.cell? ⟨w.heap.size, 1, none⟩ = some (.int .u64 n.a.hi) := fun q => q.h.2.1
  have f2 : ∀ q : Cls (ST n w), q.w.cell? ⟨w.heap.size, 2, none⟩ = some (.int .u64 n.a.lo) := fun q => q.h.2.2.1
  have f3 : ∀ q : Cls (ST n w), q.w.cell? ⟨w.heap.size, 3, none⟩ = some (.int .i64 n.n) := fun q => q.h.2.2.2.1
  refine Cls.region (ST n w) (by kernel_rfl) (by kernel_rfl) (ST.of (low_drewN (Below.refl _ _) 1)) ?_
  repeat (go_big_quiet_step (first | (with_reducible exact Cls.call (K1.out _ (Cls.h _))) | (with_reducible exact Cls.call (K2.out _ (Cls.h _)))))
  refine wpQuiet_nil ?_
  intro n9
  have hk9 := n9.h
  generalize n9.w = w9 at hk9 ⊢
  clear hne n9 f0 f1 f2 f3
  obtain ⟨j0, j1, j2, j3, hs9⟩ := id hk9
  clear k0 k1 k2 k3 hs
  clear K1 K2 JD JA
  go_wp2_with fail
  go_ret
  exact ⟨ret_b E.out.symm, ((Below.refl _ _).alloc (Nat.le_refl _) _).trans (hs9.mono (by simp))⟩
set_option maxHeartbeats 4000000 in
theorem rrightN_C (n : Net) (w : World) (hn : n.ok) (hr : rightA n.a = true) (h0 : ¬ n.n < 0) (h1 : (bitsA n.a : Int) < n.n) :
    Calls Tryz.prog 43 #[.agg #[.bool n.a.v6, .int .u64 n.a.hi, .int .u64 n.a.lo, .int .i64 n.n]] w fun e w' => e = .returned (.bool (rightN n)) ∧ Below w.heap.size w w' := by
  have K1 : Hid (∀ W, ST n w W → Calls Tryz.prog 73 #[.agg #[.bool n.a.v6, .int .u64 n.a.hi, .int .u64 n.a.lo]] W fun e w' => e = .returned (.bool (rightA n.a)) ∧ ST n w w') := Lib.hid fun W h => (rright_any n.a W hn.1).mono fun e w' ⟨he, hb⟩ => ⟨he, ST.of (low_trans h.2.2.2.2 hb)⟩
  have K2 : Hid (∀ W, ST n w W → Calls Tryz.prog 74 #[.agg #[.bool n.a.v6, .int .u64 n.a.hi, .int .u64 n.a.lo]] W fun e w' => e = .returned (.int .i64 (bitsA n.a : Nat)) ∧ ST n w w') := Lib.hid fun W h => (rbits_any n.a W).mono fun e w' ⟨he, hb⟩ => ⟨he, ST.of (low_trans h.2.2.2.2 hb)⟩
  have JD : Hid (∀ W, ST n w W → ST n w W.drew) := Lib.hid fun W h => ST.of (low_drewN h.2.2.2.2 1)
  have JA : Hid (∀ W o, ST n w W → ST n w (W.alloc o)) := Lib.hid fun W o h => ST.of (Below.alloc h.2.2.2.2 h.2.2.2.2.size o)
  have E := Lib.hid (right_no (n := n) (by rw [← Bool.not_eq_true, makeB_iff]; simp; intro _ _; omega))
  rw [hr] at K1
  have hd0 : decide (n.n < 0) = false := decide_eq_false h0
  have hd1 : decide ((bitsA n.a : Int) < n.n) = true := decide_eq_true h1
  clear hr
  have hS0 : ST n w (w.alloc (.cells #[.bool n.a.v6, .int .u64 n.a.hi, .int .u64 n.a.lo, .int .i64 n.n] 38)) := ST.of (Below.refl _ _)
  obtain ⟨k0, k1, k2, k3, hs⟩ := id hS0
  go_enter Tryz.func43, Tryz.ntmps43
  go_wp2_with fail
  have hne : Nonempty (Cls (ST n w)) := ⟨⟨_, hS0⟩⟩
  have f0 : ∀ q : Cls (ST n w), q.w.cell? ⟨w.heap.size, 0, none⟩ = some (.bool n.a.v6) := fun q => q.h.1
  have f1 : ∀ q : Cls (ST n w), q.w.cell? ⟨w.heap.size, 1, none⟩ = some (.int .u64 n.a.hi) := fun q => q.h.2.1
  have f2 : ∀ q : Cls (ST n w), q.w.cell? ⟨w.heap.size, 2, none⟩ = some (.int .u64 n.a.lo) := fun q => q.h.2.2.1
  have f3 : ∀ q : Cls (ST n w), q.w.cell? ⟨w.heap.size, 3, none⟩ = some (.int .i64 n.n) := fun q => q.h.2.2.2.1
  refine Cls.region (ST n w) (by kernel_rfl) (by kernel_rfl) (ST.of (low_drewN (Below.refl _ _) 1)) ?_
  repeat (go_big_quiet_step (first | (with_reducible exact Cls.call (K1.out _ (Cls.h _))) | (with_reducible exact Cls.call (K2.out _ (Cls.h _)))))
  refine wpQuiet_nil ?_
  intro n9
  have hk9 := n9.h
  generalize n9.w = w9 at hk9 ⊢
  clear hne n9 f0 f1 f2 f3
  obtain ⟨j0, j1, j2, j3, hs9⟩ := id hk9
  clear k0 k1 k2 k3 hs
  clear K1 K2 JD JA
  go_wp2_with fail
  go_ret
  exact ⟨ret_b E.out.symm, ((Below.refl _ _).alloc (Nat.le_refl _) _).trans (hs9.mono (by simp))⟩
set_option maxHeartbeats 4000000 in
theorem rrightN_D (n : Net) (w : World) (hn : n.ok) (hr : rightA n.a = true) (h0 : ¬ n.n < 0) (h1 : ¬ (bitsA n.a : Int) < n.n) :
    Calls Tryz.prog 43 #[.agg #[.bool n.a.v6, .int .u64 n.a.hi, .int .u64 n.a.lo, .int .i64 n.n]] w fun e w' => e = .returned (.bool (rightN n)) ∧ Below w.heap.size w w' := by
  have hm : makeB n.a n.n = true := (makeB_iff _ _).2 ⟨hr, by omega, by omega⟩
  have HR := Lib.hid (right_bits hn hm)
  have H2 := Lib.hid (bitN_two n.a)
  have K4 : Hid (∀ W j, j < bitsA n.a → ST n w W → Calls Tryz.prog 75 #[.agg #[.bool n.a.v6, .int .u64 n.a.hi, .int .u64 n.a.lo], .int .i64 (j : Nat)] W fun e w' => e = .returned (.int .i64 (bitN n.a j : Nat)) ∧ ST n w w') := Lib.hid fun W j hj h => by
    have := rbit_any n.a (j : Int) W hn.1 (by omega) (by have := bitsA_two n.a; omega)
    rw [bitA_in hj] at this
    exact this.mono fun e w' ⟨he, hb⟩ => ⟨he, ST.of (low_trans h.2.2.2.2 hb)⟩
  have K1 : Hid (∀ W, ST n w W → Calls Tryz.prog 73 #[.agg #[.bool n.a.v6, .int .u64 n.a.hi, .int .u64 n.a.lo]] W fun e w' => e = .returned (.bool (rightA n.a)) ∧ ST n w w') := Lib.hid fun W h => (rright_any n.a W hn.1).mono fun e w' ⟨he, hb⟩ => ⟨he, ST.of (low_trans h.2.2.2.2 hb)⟩
  have K2 : Hid (∀ W, ST n w W → Calls Tryz.prog 74 #[.agg #[.bool n.a.v6, .int .u64 n.a.hi, .int .u64 n.a.lo]] W fun e w' => e = .returned (.int .i64 (bitsA n.a : Nat)) ∧ ST n w w') := Lib.hid fun W h => (rbits_any n.a W).mono fun e w' ⟨he, hb⟩ => ⟨he, ST.of (low_trans h.2.2.2.2 hb)⟩
  have JD : Hid (∀ W, ST n w W → ST n w W.drew) := Lib.hid fun W h => ST.of (low_drewN h.2.2.2.2 1)
  have JA : Hid (∀ W o, ST n w W → ST n w (W.alloc o)) := Lib.hid fun W o h => ST.of (Below.alloc h.2.2.2.2 h.2.2.2.2.size o)
  have hbb := bitsA_two n.a
  rw [hr] at K1
  have hd0 : decide (n.n < 0) = false := decide_eq_false h0
  have hd1 : decide ((bitsA n.a : Int) < n.n) = false := decide_eq_false h1
  clear hr hm
  obtain ⟨m, hm⟩ : ∃ m : Nat, m = n.n.toNat := ⟨_, rfl⟩
  have HM := Lib.hid (show n.n.toNat = m by omega)
  have HN := Lib.hid (show n.n = (m : Int) by omega)
  have hmb : m ≤ bitsA n.a := by omega
  clear hm
  have hS0 : ST n w (w.alloc (.cells #[.bool n.a.v6, .int .u64 n.a.hi, .int .u64 n.a.lo, .int .i64 n.n] 38)) := ST.of (Below.refl _ _)
  obtain ⟨k0, k1, k2, k3, hs⟩ := id hS0
  go_enter Tryz.func43, Tryz.ntmps43
  go_wp2_with fail
  have hne : Nonempty (Cls (ST n w)) := ⟨⟨_, hS0⟩⟩
  have f0 : ∀ q : Cls (ST n w), q.w.cell? ⟨w.heap.size, 0, none⟩ = some (.bool n.a.v6) := fun q => q.h.1
  have f1 : ∀ q : Cls (ST n w), q.w.cell? ⟨w.heap.size, 1, none⟩ = some (.int .u64 n.a.hi) := fun q => q.h.2.1
  have f2 : ∀ q : Cls (ST n w), q.w.cell? ⟨w.heap.size, 2, none⟩ = some (.int .u64 n.a.lo) := fun q => q.h.2.2.1
  have f3 : ∀ q : Cls (ST n w), q.w.cell? ⟨w.heap.size, 3, none⟩ = some (.int .i64 n.n) := fun q => q.h.2.2.2.1
  refine Cls.region (ST n w) (by kernel_rfl) (by kernel_rfl) (ST.of (low_drewN (Below.refl _ _) 1)) ?_
  repeat (go_big_quiet_step (first | (with_reducible exact Cls.call (K1.out _ (Cls.h _))) | (with_reducible exact Cls.call (K2.out _ (Cls.h _)))))
  refine wpQuiet_nil ?_
  intro n9
  have hk9 := n9.h
  generalize n9.w = w9 at hk9 ⊢
  clear hne n9 f0 f1 f2 f3
  obtain ⟨j0, j1, j2, j3, hs9⟩ := id hk9
  clear k0 k1 k2 k3 hs
  all_goals go_wp2_with fail
  all_goals
    go_loopw [3] (fun i wr => ∃ k : Nat, i = .int .i64 k ∧ k ≤ bitsA n.a ∧ Hid (∀ j, m ≤ j → j < k → bitN n.a j = 0) ∧ Hid (m ≤ k) ∧ ST n w wr) (fun i _ => bitsA n.a - (intOf i).toNat)
    case atStart => exact ⟨m, by rw [HN.out], hmb, Lib.hid (fun j h1 h2 => absurd h1 (by omega)), Lib.hid (Nat.le_refl m), by assumption⟩
    case round =>
      obtain ⟨k, rfl, hk, HA, HK, hSr⟩ := hrel
      clear j0 j1 j2 j3 hs9
      obtain ⟨k0, k1, k2, k3, hs⟩ := id hSr
      by_cases hlt : k < bitsA n.a
      · go_wp2_with fail
        refine (K2.out _ hSr).mono ?_
        rintro e w5 ⟨rfl, hS5⟩
        clear k0 k1 k2 k3 hs
        obtain ⟨k0, k1, k2, k3, hs⟩ := id hS5
        rcases H2.out k with hz | ho
        · have HB := Lib.hid (fun W => K4.out W k hlt)
          rw [hz] at HB
          go_wp2_with fail
          refine (HB.out _ hS5).mono ?_
          rintro e w6 ⟨rfl, hS6⟩
          have HA2 : Hid (∀ j, m ≤ j → j < k + 1 → bitN n.a j = 0) := Lib.hid (fun j h1 h2 => by
            rcases Nat.lt_succ_iff_lt_or_eq.1 h2 with h | rfl
            · exact HA.out j h1 h
            · exact hz)
          have HK2 : Hid (m ≤ k + 1) := Lib.hid (by have := HK.out; omega)
          go_wp2
          go_roundw
          case rel => exact ⟨k + 1, by go_num, by omega, HA2, HK2, hS6⟩
          case measure => simp [intOf]; omega
        · have HB := Lib.hid (fun W => K4.out W k hlt)
          rw [ho] at HB
          have E : Hid (rightN n = false) := Lib.hid (by
            rw [← Bool.not_eq_true, HR.out]
            intro h
            have := h k (by rw [HM.out]; exact HK.out) hlt
            omega)
          go_wp2_with fail
          refine (HB.out _ hS5).mono ?_
          rintro e w6 ⟨rfl, hS6⟩
          go_wp2
          go_ret
          exact ⟨ret_b E.out.symm, ((Below.refl _ _).alloc (Nat.le_refl _) _).trans (hS6.2.2.2.2.mono (by simp))⟩
      · obtain rfl : k = bitsA n.a := by omega
        have E : Hid (rightN n = true) := Lib.hid (by
          rw [HR.out, HM.out]
          exact fun j h1 h2 => HA.out j h1 h2)
        go_wp2_with fail
        refine (K2.out _ hSr).mono ?_
        rintro e w5 ⟨rfl, hS5⟩
        go_wp2
        go_ret
        exact ⟨ret_b E.out.symm, ((Below.refl _ _).alloc (Nat.le_refl _) _).trans (hS5.2.2.2.2.mono (by simp))⟩
theorem rrightN_any (n : Net) (w : World) (hn : n.ok) :
    Calls Tryz.prog 43 #[.agg #[.bool n.a.v6, .int .u64 n.a.hi, .int .u64 n.a.lo, .int .i64 n.n]] w fun e w' => e = .returned (.bool (rightN n)) ∧ Below w.heap.size w w' := by
  cases hr : rightA n.a
  · exact rrightN_A n w hn hr
  · by_cases h0 : n.n < 0
    · exact rrightN_B n w hn hr h0
    · by_cases h1 : (bitsA n.a : Int) < n.n
      · exact rrightN_C n w hn hr h0 h1
      · exact rrightN_D n w hn hr h0 h1
end Go.Proofs.YtefkolkagebffaaGreatDoor.Ci

namespace Go.Proofs.YtefkolkagebffaaGreatDoor.Ci
set_option maxRecDepth 100000
open Go.ChangeShapes Go.WideShapes Go.ChangeAt Go.RowKit
open Dec Words V4 V6 Ad
set_option linter.unusedVariables false
theorem cat3 (a b : List UInt8) : Value.string (⟨a.toArray⟩ ++ ⟨#[47]⟩ ++ ⟨b.toArray⟩) = .string ⟨(a ++ 47 :: b).toArray⟩ := by
  show Value.string (⟨a.toArray⟩ ++ ⟨[47].toArray⟩ ++ ⟨b.toArray⟩) = _
  simp only [ByteArray.mk_append_mk]
  simp
set_option maxHeartbeats 4000000 in
theorem rtextN_any (n : Net) (w : World) (hn : n.ok) :
    Calls Tryz.prog 44 #[.agg #[.bool n.a.v6, .int .u64 n.a.hi, .int .u64 n.a.lo, .int .i64 n.n]] w fun e w' => e = .returned (.string ⟨(textN n).toArray⟩) ∧ Below w.heap.size w w' := by
  have RI := Lib.hid (fun W => rrightN_any n W hn)
  cases hr : rightN n
  · have E : Hid (textN n = []) := Lib.hid (textN_no hr)
    rw [hr] at RI
    clear hr
    go_enter Tryz.func44, Tryz.ntmps44
    go_wp2_with fail
    refine (RI.out _).mono ?_
    rintro e w1 ⟨rfl, hb1⟩
    go_wp2_with fail
    go_ret
    exact ⟨ret_s (a := []) E.out.symm, ((Below.refl _ _).alloc (Nat.le_refl _) _).trans (hb1.mono (by simp))⟩
  · have E : Hid (textA n.a ++ 47 :: text n.n = textN n) := Lib.hid (by unfold textN; rw [if_pos hr])
    rw [hr] at RI
    clear hr
    have K1 : Hid (∀ W, ST n w W → Calls Tryz.prog 76 #[.agg #[.bool n.a.v6, .int .u64 n.a.hi, .int .u64 n.a.lo]] W fun e w' => e = .returned (.string ⟨(textA n.a).toArray⟩) ∧ ST n w w') := Lib.hid fun W h => (rtextA_any n.a W hn.1).mono fun e w' ⟨he, hb⟩ => ⟨he, ST.of (low_trans h.2.2.2.2 hb)⟩
    have K2 : Hid (∀ W, ST n w W → Calls Tryz.prog 45 #[.int .i64 n.n] W fun e w' => e = .returned (.string ⟨(text n.n).toArray⟩) ∧ ST n w w') := Lib.hid fun W h => (rtext_any n.n W hn.2.1 hn.2.2).mono fun e w' ⟨he, hb⟩ => ⟨he, ST.of (low_trans h.2.2.2.2 hb)⟩
    have JD : Hid (∀ W, ST n w W → ST n w W.drew) := Lib.hid fun W h => ST.of (low_drewN h.2.2.2.2 1)
    have JA : Hid (∀ W o, ST n w W → ST n w (W.alloc o)) := Lib.hid fun W o h => ST.of (Below.alloc h.2.2.2.2 h.2.2.2.2.size o)
    have tl1 := textA_len n.a
    have tl2 := text_len n.n hn.2.1 hn.2.2
    have hc1 : ∀ W, (Op.stringOp .add (⟨(textA n.a).toArray⟩ : ByteArray) ⟨#[47]⟩).run Tryz.prog W = .ok (.string (⟨(textA n.a).toArray⟩ ++ ⟨#[47]⟩)) W :=
      fun W => run_string_add_sum W _ _ (by rw [size_mk]; show _ + 1 ≤ _; omega)
    have hc2 : ∀ W, (Op.stringOp .add ((⟨(textA n.a).toArray⟩ : ByteArray) ++ ⟨#[47]⟩) ⟨(text n.n).toArray⟩).run Tryz.prog W = .ok (.string (⟨(textA n.a).toArray⟩ ++ ⟨#[47]⟩ ++ ⟨(text n.n).toArray⟩)) W :=
      fun W => run_string_add_sum W _ _ (by rw [ByteArray.size_append, size_mk (textA n.a), size_mk (text n.n)]; show _ + 1 + _ ≤ _; omega)
    clear tl1 tl2
    go_enter Tryz.func44, Tryz.ntmps44
    go_wp2_with fail
    refine (RI.out _).mono ?_
    rintro e w1 ⟨rfl, hb1⟩
    have hS1 : ST n w w1 := ST.of hb1
    clear hb1 RI
    obtain ⟨k0, k1, k2, k3, hs⟩ := id hS1
    go_wp2_with fail
    go_region_with (first
      | (go_at_call 76; (with_reducible refine (K1.out _ (by (repeat (first | assumption | refine JD.out _ ?_ | refine JA.out _ _ ?_)))).mono ?_); rintro e w9 ⟨rfl, hkw⟩; obtain ⟨k0, k1, k2, k3, hs⟩ := id hkw)
      | (go_at_call 45; (with_reducible refine (K2.out _ (by (repeat (first | assumption | refine JD.out _ ?_ | refine JA.out _ _ ?_)))).mono ?_); rintro e w9 ⟨rfl, hkw⟩; obtain ⟨k0, k1, k2, k3, hs⟩ := id hkw))
    all_goals clear K1 K2 JD JA hc1 hc2
    all_goals go_wp2_with fail
    all_goals go_ret
    all_goals exact ⟨by show Ending.returned (.string (⟨(textA n.a).toArray⟩ ++ ⟨#[47]⟩ ++ ⟨(text n.n).toArray⟩)) = _; rw [cat3, E.out], ((Below.refl _ _).alloc (Nat.le_refl _) _).trans (hs.mono (by simp))⟩
end Go.Proofs.YtefkolkagebffaaGreatDoor.Ci
