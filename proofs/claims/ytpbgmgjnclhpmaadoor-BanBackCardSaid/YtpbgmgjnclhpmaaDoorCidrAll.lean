/- Contracts of package cidr. -/
import Derived.Test.YtpbgmgjnclhpmaaDoorAddrAll
import Derived.Test.YtpbgmgjnclhpmaaDoorMath
import Derived.Laws.Small
import Derived.Lib.MinMax
import Derived.Deep.RegionHeld3
import Derived.Outline
import Derived.Deep.RegionWith
namespace Go.Proofs.YtpbgmgjnclhpmaaDoor.Ci
set_option maxRecDepth 100000
open Go.ChangeShapes Go.WideShapes Go.ChangeAt Go.RowKit
open Dec Words V4 V6 Ad
set_option linter.unusedVariables false
theorem shr_keep (x y : Nat) (hx : x < 18446744073709551616) : Op.shift .shr .u64 (x : Int) .i64 (y : Int) = pure (.int .u64 ((x / 2 ^ y : Nat) : Int)) := by
  have hp : (0 : Int) ≤ 2 ^ min y 64 := Int.pow_nonneg (by decide)
  have e : (x : Int).fdiv (2 ^ min y 64) = ((x / 2 ^ y : Nat) : Int) := by
    rw [Int.fdiv_eq_ediv_of_nonneg _ hp]
    by_cases h : y ≤ 64
    · rw [Nat.min_eq_left h]; norm_cast
    · rw [Nat.min_eq_right (by omega), Nat.div_eq_of_lt (Nat.lt_of_lt_of_le hx (Nat.pow_le_pow_right (n := 2) (i := 64) (by omega) (by omega)))]
      have : ((2 : Int) ^ 64) = 18446744073709551616 := by decide
      rw [this]; omega
  have hn : ¬ (y : Int) < 0 := by omega
  simp only [Op.shift, if_neg hn, Int.toNat_natCast, IntKind.bits]
  rw [e]
theorem shl_keep (x y : Nat) (hx : x < 18446744073709551616) : Op.shift .shl .u64 ((x / 2 ^ y : Nat) : Int) .i64 (y : Int) = pure (.int .u64 ((keep x y : Nat) : Int)) := by
  have hk := keep_le x y
  have e : IntKind.u64.wrap (((x / 2 ^ y : Nat) : Int) * 2 ^ min y 64) = ((keep x y : Nat) : Int) := by
    rw [IntKind.wrap_u64]
    by_cases h : y ≤ 64
    · rw [Nat.min_eq_left h]
      have : ((x / 2 ^ y : Nat) : Int) * 2 ^ y = ((keep x y : Nat) : Int) := by unfold keep; norm_cast
      rw [this]; omega
    · have h0 : x < 2 ^ y := Nat.lt_of_lt_of_le hx (Nat.pow_le_pow_right (n := 2) (i := 64) (by omega) (by omega))
      rw [keep_low h0, Nat.div_eq_of_lt h0]; simp
  have hn : ¬ (y : Int) < 0 := by omega
  simp only [Op.shift, if_neg hn, Int.toNat_natCast, IntKind.bits]
  rw [e]
theorem cells_left {W w' : World} (h : Below W.heap.size W w') {b o : Nat} {v : Value} (hc : W.cell? ⟨b, o, none⟩ = some v) : w'.cell? ⟨b, o, none⟩ = some v :=
  (h.cell (p := ⟨b, o, none⟩) (World.block_lt_of_cell? _ _ hc)).trans hc
set_option maxHeartbeats 1000000 in
theorem first_any (a : Adr) (k : Nat) (w : World) (ha : a.ok) (hk : k ≤ bitsA a) :
    Calls Tryd.prog 39 #[.agg #[.bool a.v6, .int .u64 a.hi, .int .u64 a.lo], .int .i64 (k : Nat)] w fun e w' => e = .returned (.agg #[.bool (firstA a k).v6, .int .u64 (firstA a k).hi, .int .u64 (firstA a k).lo]) ∧ Below w.heap.size w w' := by
  have BI := Lib.hid (fun W => bits_any a W)
  have hb := bitsA_two a
  obtain ⟨r, hr⟩ : ∃ r : Nat, r = bitsA a - k := ⟨_, rfl⟩
  obtain ⟨g, hg⟩ : ∃ g : Nat, g = r - 64 := ⟨_, rfl⟩
  have R : (bitsA a : Int) - (k : Int) = (r : Int) := by omega
  have M : max ((r : Int) - 64) 0 = (g : Int) := by omega
  have E1 : (firstA a k).hi = keep a.hi g := by unfold firstA; rw [hg, hr]
  have E2 : (firstA a k).lo = keep a.lo r := by unfold firstA; rw [hr]
  have E0 : (firstA a k).v6 = a.v6 := by unfold firstA; rfl
  rw [E0, E1, E2]
  obtain ⟨ha1, ha2⟩ := ha
  have S1 := shr_keep a.lo r ha2
  have S2 := shl_keep a.lo r ha2
  have T1 := shr_keep a.hi g ha1
  have T2 := shl_keep a.hi g ha1
  generalize keep a.lo r = x1 at *
  generalize keep a.hi g = x2 at *
  generalize a.lo / 2 ^ r = y1 at *
  generalize a.hi / 2 ^ g = y2 at *
  have hB : bitsA a ≤ 1000 := by omega
  have hR : r ≤ 1000 := by omega
  have hR' : k ≤ 128 := by omega
  generalize bitsA a = B at *
  clear E0 E1 E2 hr hb hg hk
  obtain ⟨v, hi, lo⟩ := a
  simp only [] at *
  go_enter Tryd.func39, Tryd.ntmps39
  go_wp2_with fail
  refine (BI.out _).mono ?_
  rintro e w1 ⟨rfl, hb1⟩
  obtain ⟨hc, hf⟩ := old hb1
  have i1 : (w1.cell? ⟨w.heap.size, 1, none⟩).isSome = true := by rw [hc _ _ (by simp; omega)]; simp [go_sem]
  have i2 : (w1.cell? ⟨w.heap.size, 2, none⟩).isSome = true := by rw [hc _ _ (by simp; omega)]; simp [go_sem]
  go_wp2_with fail
  exact bodyPost_ret (v := .agg #[.bool v, .int .u64 x2, .int .u64 x1]) (by simp [results, Tryd.results39, go_sem, hc]) rfl ⟨rfl, ((((((two_low _ _ _).trans (hb1.mono (by simp; omega))).setCell (by simp) _).setCell (by simp) _).setCell (by simp) _).setCell (by simp) _).setCell (by simp) _⟩
theorem eqInAdr (d : Nat) (a b : Adr) (w : World) : (Op.equalIn (d + 2) 24 (.agg #[.bool a.v6, .int .u64 a.hi, .int .u64 a.lo]) (.agg #[.bool b.v6, .int .u64 b.hi, .int .u64 b.lo])).run Tryd.prog w = .ok (sameA a b) w := by
  have h4 : ∀ w : World, (isAgg 4).run Tryd.prog w = .ok false w := fun _ => by kernel_rfl
  have h22 : ∀ w : World, (isAgg 22).run Tryd.prog w = .ok false w := fun _ => by kernel_rfl
  rw [run_equalIn_struct w (d + 1) _ _ _ (by kernel_rfl) (by kernel_rfl)]
  rw [show (Tryd.prog.fieldsOf 24).toList = [⟨"V6", 4, 0, false, "", "", 0⟩, ⟨"Hi", 22, 1, false, "", "", 8⟩, ⟨"Lo", 22, 2, false, "", "", 16⟩] from by kernel_rfl]
  have p0 : ∀ a : Adr, (part 4 #[.bool a.v6, .int .u64 a.hi, .int .u64 a.lo] 0).run Tryd.prog w = .ok (.bool a.v6) w := fun a => part_one w _ _ _ _ (h4 w) rfl
  have p1 : ∀ a : Adr, (part 22 #[.bool a.v6, .int .u64 a.hi, .int .u64 a.lo] 1).run Tryd.prog w = .ok (.int .u64 a.hi) w := fun a => part_one w _ _ _ _ (h22 w) rfl
  have p2 : ∀ a : Adr, (part 22 #[.bool a.v6, .int .u64 a.hi, .int .u64 a.lo] 2).run Tryd.prog w = .ok (.int .u64 a.lo) w := fun a => part_one w _ _ _ _ (h22 w) rfl
  have q0 : (Op.equalIn (d + 1) 4 (.bool a.v6) (.bool b.v6)).run Tryd.prog w = .ok (a.v6 == b.v6) w := run_equalIn_bool' w d _ _ _ Tryd.underlying4
  have q1 : (Op.equalIn (d + 1) 22 (.int .u64 a.hi) (.int .u64 b.hi)).run Tryd.prog w = .ok (a.hi == b.hi) w := by rw [run_equalIn_int w d _ _ _ _ _ Tryd.underlying22, nat_beq]
  have q2 : (Op.equalIn (d + 1) 22 (.int .u64 a.lo) (.int .u64 b.lo)).run Tryd.prog w = .ok (a.lo == b.lo) w := by rw [run_equalIn_int w d _ _ _ _ _ Tryd.underlying22, nat_beq]
  simp only [Op.eqFields, Sem.run_bind, Sem.run_ite, p0, p1, p2, q0, q1, q2, Result.andThen_ok, sameA]
  cases (a.v6 == b.v6) <;> cases (a.hi == b.hi) <;> cases (a.lo == b.lo) <;> simp
theorem eqNet (m n : Net) (w : World) : (binOp .eql 26 (.agg #[.bool m.a.v6, .int .u64 m.a.hi, .int .u64 m.a.lo, .int .i64 m.n]) (.agg #[.bool n.a.v6, .int .u64 n.a.hi, .int .u64 n.a.lo, .int .i64 n.n])).run Tryd.prog w = .ok (.bool (sameN m n)) w := by
  have hA : ∀ w : World, (isAgg 24).run Tryd.prog w = .ok true w := fun _ => by kernel_rfl
  have hz : ∀ w : World, (sizeOf 24).run Tryd.prog w = .ok 3 w := fun _ => by kernel_rfl
  have h3 : ∀ w : World, (isAgg 3).run Tryd.prog w = .ok false w := fun _ => by kernel_rfl
  rw [run_eql_struct, run_equalIn_struct w 9999 _ _ _ (by kernel_rfl) (by kernel_rfl)]
  rw [show (Tryd.prog.fieldsOf 26).toList = [⟨"Addr", 24, 0, false, "", "", 0⟩, ⟨"Bits", 3, 3, false, "", "", 24⟩] from by kernel_rfl]
  have p0 : ∀ n : Net, (part 24 #[.bool n.a.v6, .int .u64 n.a.hi, .int .u64 n.a.lo, .int .i64 n.n] 0).run Tryd.prog w = .ok (.agg #[.bool n.a.v6, .int .u64 n.a.hi, .int .u64 n.a.lo]) w := fun n => by simp [part, hA, hz]
  have p1 : ∀ n : Net, (part 3 #[.bool n.a.v6, .int .u64 n.a.hi, .int .u64 n.a.lo, .int .i64 n.n] 3).run Tryd.prog w = .ok (.int .i64 n.n) w := fun n => part_one w _ _ _ _ (h3 w) rfl
  have q0 := eqInAdr 9997 m.a n.a w
  have q1 : (Op.equalIn 9999 3 (.int .i64 m.n) (.int .i64 n.n)).run Tryd.prog w = .ok (m.n == n.n) w := run_equalIn_int w 9998 _ _ _ _ _ Tryd.underlying3
  simp only [Op.eqFields, Sem.run_bind, Sem.run_ite, p0, p1, q0, q1, Result.andThen_ok, sameN]
  cases (sameA m.a n.a) <;> cases (m.n == n.n) <;> simp
theorem neqNet (m n : Net) (w : World) : (binOp .neq 26 (.agg #[.bool m.a.v6, .int .u64 m.a.hi, .int .u64 m.a.lo, .int .i64 m.n]) (.agg #[.bool n.a.v6, .int .u64 n.a.hi, .int .u64 n.a.lo, .int .i64 n.n])).run Tryd.prog w = .ok (.bool (!sameN m n)) w := by
  have h := eqNet m n w
  rw [run_eql_struct] at h
  rw [run_neq_struct]
  generalize (Op.equalIn 10000 26 (.agg #[.bool m.a.v6, .int .u64 m.a.hi, .int .u64 m.a.lo, .int .i64 m.n]) (.agg #[.bool n.a.v6, .int .u64 n.a.hi, .int .u64 n.a.lo, .int .i64 n.n])).run Tryd.prog w = r at h
  cases r with
  | ok x w' =>
    simp only [Result.andThen_ok, Result.ok.injEq, Value.bool.injEq] at h ⊢
    obtain ⟨rfl, rfl⟩ := h
    exact ⟨rfl, rfl⟩
  | halt x w' => cases h
set_option maxHeartbeats 2000000 in
theorem make_any (a : Adr) (i : Int) (w : World) (ha : a.ok) (h1 : -9223372036854775808 ≤ i) (h2 : i ≤ 9223372036854775807) :
    Calls Tryd.prog 24 #[.agg #[.bool a.v6, .int .u64 a.hi, .int .u64 a.lo], .int .i64 i] w fun e w' => e = .returned (.tuple #[.agg #[.bool (makeN a i).a.v6, .int .u64 (makeN a i).a.hi, .int .u64 (makeN a i).a.lo, .int .i64 (makeN a i).n], .bool (makeB a i)]) ∧ Below w.heap.size w w' := by
  have RI := Lib.hid (fun W => right_any a W ha)
  have BI := Lib.hid (fun W => bits_any a W)
  have hb := bitsA_two a
  cases hr : rightA a
  · have EB : makeB a i = false := by rw [← Bool.not_eq_true, makeB_iff]; simp [hr]; try omega
    have E : makeN a i = zero := by unfold makeN; rw [EB]; rfl
    rw [E, EB]
    clear E EB
    simp only [zero]
    rw [hr] at RI
    clear hr hb
    go_enter Tryd.func24, Tryd.ntmps24
    go_wp2_with fail
    refine (RI.out _).mono ?_
    rintro e w1 ⟨rfl, hb1⟩
    obtain ⟨hc, hf⟩ := old hb1
    go_wp2_with fail
    exact bodyPost_ret (v := .tuple #[.agg #[.bool false, .int .u64 0, .int .u64 0, .int .i64 0], .bool false]) (by simp [results, Tryd.results24, go_sem, hc]) rfl ⟨rfl, (((((two_low _ _ _).trans (hb1.mono (by simp; omega))).setCell (by simp) _).setCell (by simp) _).setCell (by simp) _).setCell (by simp) _⟩
  · by_cases hi : i < 0
    · have EB : makeB a i = false := by rw [← Bool.not_eq_true, makeB_iff]; simp [hr]; try omega
      have E : makeN a i = zero := by unfold makeN; rw [EB]; rfl
      rw [E, EB]
      clear E EB
      simp only [zero]
      rw [hr] at RI
      clear hr hb
      go_enter Tryd.func24, Tryd.ntmps24
      go_wp2_with fail
      refine (RI.out _).mono ?_
      rintro e w1 ⟨rfl, hb1⟩
      obtain ⟨hc, hf⟩ := old hb1
      go_wp2_with fail
      exact bodyPost_ret (v := .tuple #[.agg #[.bool false, .int .u64 0, .int .u64 0, .int .i64 0], .bool false]) (by simp [results, Tryd.results24, go_sem, hc]) rfl ⟨rfl, (((((two_low _ _ _).trans (hb1.mono (by simp; omega))).setCell (by simp) _).setCell (by simp) _).setCell (by simp) _).setCell (by simp) _⟩
    · by_cases hk : (bitsA a : Int) < i
      · have EB : makeB a i = false := by rw [← Bool.not_eq_true, makeB_iff]; simp [hr]; try omega
        have E : makeN a i = zero := by unfold makeN; rw [EB]; rfl
        rw [E, EB]
        clear E EB
        simp only [zero]
        rw [hr] at RI
        clear hr hb
        go_enter Tryd.func24, Tryd.ntmps24
        go_wp2_with fail
        refine (RI.out _).mono ?_
        rintro e w1 ⟨rfl, hb1⟩
        obtain ⟨hc, hf⟩ := old hb1
        go_wp2_with fail
        refine (BI.out _).mono ?_
        rintro e w2 ⟨rfl, hb2⟩
        have hb12 := low_trans hb1 hb2
        clear hc hf
        obtain ⟨hc, hf⟩ := old hb12
        go_wp2_with fail
        exact bodyPost_ret (v := .tuple #[.agg #[.bool false, .int .u64 0, .int .u64 0, .int .i64 0], .bool false]) (by simp [results, Tryd.results24, go_sem, hc]) rfl ⟨rfl, (((((two_low _ _ _).trans (hb12.mono (by simp; omega))).setCell (by simp) _).setCell (by simp) _).setCell (by simp) _).setCell (by simp) _⟩
      · obtain ⟨k, rfl⟩ := Int.eq_ofNat_of_zero_le (Int.not_lt.1 hi)
        have hk' : k ≤ bitsA a := by omega
        have EB : makeB a (k : Int) = true := (makeB_iff _ _).2 ⟨hr, by omega, by omega⟩
        have E : makeN a (k : Int) = ⟨firstA a k, (k : Int)⟩ := by unfold makeN; rw [EB]; rfl
        rw [E, EB]
        clear E EB
        simp only []
        have FI := Lib.hid (fun W => first_any a k W ha hk')
        rw [hr] at RI
        clear hr hi hk
        have hk9 : k ≤ 128 := by omega
        clear hb
        go_enter Tryd.func24, Tryd.ntmps24
        go_wp2_with fail
        refine (RI.out _).mono ?_
        rintro e w1 ⟨rfl, hb1⟩
        obtain ⟨hc, hf⟩ := old hb1
        go_wp2_with fail
        refine (BI.out _).mono ?_
        rintro e w2 ⟨rfl, hb2⟩
        have hb12 := low_trans hb1 hb2
        clear hc hf
        obtain ⟨hc, hf⟩ := old hb12
        go_wp2_with fail
        refine (FI.out _).mono ?_
        rintro e w3 ⟨rfl, hb3⟩
        have hb13 := low_trans hb12 hb3
        clear hc hf
        obtain ⟨hc, hf⟩ := old hb13
        go_wp2_with fail
        exact bodyPost_ret (v := .tuple #[.agg #[.bool (firstA a k).v6, .int .u64 (firstA a k).hi, .int .u64 (firstA a k).lo, .int .i64 (k : Nat)], .bool true]) (by simp [results, Tryd.results24, go_sem, hc]) rfl ⟨rfl, (((((two_low _ _ _).trans (hb13.mono (by simp; omega))).setCell (by simp) _).setCell (by simp) _).setCell (by simp) _).setCell (by simp) _⟩
end Go.Proofs.YtpbgmgjnclhpmaaDoor.Ci
/- Contracts of package cidr: what is in a subnet; the subnet of one address; masks. -/
namespace Go.Proofs.YtpbgmgjnclhpmaaDoor.Ci
set_option maxRecDepth 100000
open Go.ChangeShapes Go.WideShapes Go.ChangeAt Go.RowKit
open Dec Words V4 V6 Ad
set_option linter.unusedVariables false
theorem sizes {n m : Nat} (h : n + 2 ≤ m) : n < m ∧ n + 1 < m ∧ ¬ n = m ∧ ¬ n + 1 = m ∧ ¬ m = n ∧ ¬ m = n + 1 := ⟨by omega, by omega, by omega, by omega, by omega, by omega⟩
set_option maxHeartbeats 1000000 in
theorem has_any (n : Net) (a : Adr) (w : World) (hn : n.ok) (ha : a.ok) :
    Calls Tryd.prog 17 #[.agg #[.bool n.a.v6, .int .u64 n.a.hi, .int .u64 n.a.lo, .int .i64 n.n], .agg #[.bool a.v6, .int .u64 a.hi, .int .u64 a.lo]] w fun e w' => e = .returned (.bool (hasN n a)) ∧ Below w.heap.size w w' := by
  obtain ⟨hn0, hn1, hn2⟩ := hn
  have MK := Lib.hid (fun W => make_any a n.n W ha hn1 hn2)
  have EQ := fun W => eqNet (makeN a n.n) n W
  cases hm : makeB a n.n
  · have E : Hid (hasN n a = false) := Lib.hid (by unfold hasN; rw [hm]; rfl)
    rw [hm] at MK
    clear hm
    go_enter Tryd.func17, Tryd.ntmps17
    go_wp2_with fail
    refine (MK.out _).mono ?_
    rintro e w1 ⟨rfl, hb1⟩
    obtain ⟨hc, hf⟩ := old hb1
    obtain ⟨z0, z1, z2, z3, z4, z5⟩ := sizes (show w.heap.size + 2 ≤ w1.heap.size by have := hb1.size; simp at this; omega)
    go_wp2_with fail
    go_ret
    exact ⟨ret_b E.out.symm, ((two_low _ _ _).trans (hb1.mono (by simp; omega))).alloc (by omega) _⟩
  · have E : Hid (hasN n a = sameN (makeN a n.n) n) := Lib.hid (by unfold hasN; rw [hm]; rfl)
    rw [hm] at MK
    clear hm
    go_enter Tryd.func17, Tryd.ntmps17
    go_wp2_with fail
    refine (MK.out _).mono ?_
    rintro e w1 ⟨rfl, hb1⟩
    obtain ⟨hc, hf⟩ := old hb1
    obtain ⟨z0, z1, z2, z3, z4, z5⟩ := sizes (show w.heap.size + 2 ≤ w1.heap.size by have := hb1.size; simp at this; omega)
    go_wp2_with fail
    go_ret
    exact ⟨ret_b E.out.symm, ((two_low _ _ _).trans (hb1.mono (by simp; omega))).alloc (by omega) _⟩
theorem rightN_any (n : Net) (w : World) (hn : n.ok) :
    Calls Tryd.prog 16 #[.agg #[.bool n.a.v6, .int .u64 n.a.hi, .int .u64 n.a.lo, .int .i64 n.n]] w fun e w' => e = .returned (.bool (rightN n)) ∧ Below w.heap.size w w' := by
  have HA := Lib.hid (fun W => has_any n n.a W hn hn.1)
  have E : Hid (rightN n = hasN n n.a) := Lib.hid rfl
  go_enter Tryd.func16, Tryd.ntmps16
  go_wp2_with fail
  refine (HA.out _).mono ?_
  rintro e w1 ⟨rfl, hb1⟩
  go_wp2_with fail
  go_ret
  exact ⟨ret_b E.out.symm, ((Below.refl _ _).alloc (Nat.le_refl _) _).trans (hb1.mono (by simp))⟩
theorem low_drew {B : Nat} {a w : World} (h : Below B a w) : Below B a w.drew := low_drewN h 1
theorem frozen_left {W w' : World} (h : Below W.heap.size W w') {b o : Nat} (hl : b < W.heap.size) (hc : W.frozen? ⟨b, o, none⟩ = false) : w'.frozen? ⟨b, o, none⟩ = false := ((old h).2 b o hl).trans hc
theorem swap {P R : World → Prop} {X : World} (h : R X) (k : ∀ w5, R w5 → P w5) : P X := k X h
abbrev OF (n : Net) (p : Nat) (w' : World) : Prop := w'.cell? ⟨p, 0, none⟩ = some (.bool n.a.v6) ∧ w'.cell? ⟨p, 1, none⟩ = some (.int .u64 n.a.hi) ∧ w'.cell? ⟨p, 2, none⟩ = some (.int .u64 n.a.lo) ∧ w'.cell? ⟨p, 3, none⟩ = some (.int .i64 n.n)
theorem own_set {n : Net} {p : Nat} {wm : World} (h0 : (wm.cell? ⟨p, 0, none⟩).isSome = true) (h1 : (wm.cell? ⟨p, 1, none⟩).isSome = true) (h2 : (wm.cell? ⟨p, 2, none⟩).isSome = true) (h3 : (wm.cell? ⟨p, 3, none⟩).isSome = true) :
    OF n p ((((wm.setCell ⟨p, 0, none⟩ (.bool n.a.v6)).setCell ⟨p, 1, none⟩ (.int .u64 n.a.hi)).setCell ⟨p, 2, none⟩ (.int .u64 n.a.lo)).setCell ⟨p, 3, none⟩ (.int .i64 n.n)) := by
  refine ⟨?_, ?_, ?_, ?_⟩ <;> simp [go_sem, h0, h1, h2, h3]
theorem own_new {n : Net} {wm : World} {t : TypeId} : OF n wm.heap.size (wm.alloc (.cells #[.bool n.a.v6, .int .u64 n.a.hi, .int .u64 n.a.lo, .int .i64 n.n] t)) := by
  refine ⟨?_, ?_, ?_, ?_⟩ <;> simp [go_sem]
abbrev SF (a : Adr) (w : World) (w' : World) : Prop := w'.cell? ⟨w.heap.size, 0, none⟩ = some (.bool a.v6) ∧ w'.cell? ⟨w.heap.size, 1, none⟩ = some (.int .u64 a.hi) ∧ w'.cell? ⟨w.heap.size, 2, none⟩ = some (.int .u64 a.lo) ∧ w'.cell? ⟨w.heap.size + 1, 0, none⟩ = some (.bool false) ∧ w'.cell? ⟨w.heap.size + 1, 1, none⟩ = some (.int .u64 0) ∧ w'.cell? ⟨w.heap.size + 1, 2, none⟩ = some (.int .u64 0) ∧ w'.cell? ⟨w.heap.size + 1, 3, none⟩ = some (.int .i64 0) ∧ w'.frozen? ⟨w.heap.size + 1, 0, none⟩ = false ∧ w'.frozen? ⟨w.heap.size + 1, 1, none⟩ = false ∧ w'.frozen? ⟨w.heap.size + 1, 2, none⟩ = false ∧ w'.frozen? ⟨w.heap.size + 1, 3, none⟩ = false ∧ Stays ((w.alloc (.cells #[.bool a.v6, .int .u64 a.hi, .int .u64 a.lo] 24)).alloc (.cells #[.bool false, .int .u64 0, .int .u64 0, .int .i64 0] 26)) w'
set_option maxHeartbeats 4000000 in
theorem full_any (a : Adr) (w : World) (ha : a.ok) :
    Calls Tryd.prog 21 #[.agg #[.bool a.v6, .int .u64 a.hi, .int .u64 a.lo]] w fun e w' => e = .returned (.agg #[.bool (fullN a).a.v6, .int .u64 (fullN a).a.hi, .int .u64 (fullN a).a.lo, .int .i64 (fullN a).n]) ∧ Below w.heap.size w w' := by
  have hb := bitsA_two a
  have MK := Lib.hid (fun W => make_any a (bitsA a : Int) W ha (by omega) (by omega))
  have BI := Lib.hid (fun W => bits_any a W)
  have c0 : ∀ w', Stays ((w.alloc (.cells #[.bool a.v6, .int .u64 a.hi, .int .u64 a.lo] 24)).alloc (.cells #[.bool false, .int .u64 0, .int .u64 0, .int .i64 0] 26)) w' → SF a w w' := fun w' h => ⟨cells_left h (by simp [go_sem]), cells_left h (by simp [go_sem]), cells_left h (by simp [go_sem]), cells_left h (by simp [go_sem]), cells_left h (by simp [go_sem]), cells_left h (by simp [go_sem]), cells_left h (by simp [go_sem]), frozen_left h (by simp) (by simp [go_sem]), frozen_left h (by simp) (by simp [go_sem]), frozen_left h (by simp) (by simp [go_sem]), frozen_left h (by simp) (by simp [go_sem]), h⟩
  have IN := Lib.hid c0
  have K1 : Hid (∀ W, SF a w W → Calls Tryd.prog 33 #[.agg #[.bool a.v6, .int .u64 a.hi, .int .u64 a.lo]] W fun e w' => e = .returned (.int .i64 (bitsA a : Nat)) ∧ SF a w w' ∧ Below W.heap.size W w') := Lib.hid fun W h => (BI.out W).mono fun e w' ⟨he, hb⟩ => ⟨he, IN.out _ (low_trans h.2.2.2.2.2.2.2.2.2.2.2 hb), hb⟩
  have K2 : Hid (∀ W, SF a w W → Calls Tryd.prog 24 #[.agg #[.bool a.v6, .int .u64 a.hi, .int .u64 a.lo], .int .i64 (bitsA a : Nat)] W fun e w' => e = .returned (.tuple #[.agg #[.bool (makeN a (bitsA a : Int)).a.v6, .int .u64 (makeN a (bitsA a : Int)).a.hi, .int .u64 (makeN a (bitsA a : Int)).a.lo, .int .i64 (makeN a (bitsA a : Int)).n], .bool (makeB a (bitsA a : Int))]) ∧ SF a w w' ∧ Below W.heap.size W w') := Lib.hid fun W h => (MK.out W).mono fun e w' ⟨he, hb⟩ => ⟨he, IN.out _ (low_trans h.2.2.2.2.2.2.2.2.2.2.2 hb), hb⟩
  have E : Hid (fullN a = makeN a (bitsA a : Int)) := Lib.hid rfl
  rw [E.out]
  have hk0 : SF a w ((w.alloc (.cells #[.bool a.v6, .int .u64 a.hi, .int .u64 a.lo] 24)).alloc (.cells #[.bool false, .int .u64 0, .int .u64 0, .int .i64 0] 26)) := c0 _ (Below.refl _ _)
  clear c0 hb
  go_enter Tryd.func21, Tryd.ntmps21
  go_wp2_with fail
  go_region_held3 (fun w' => w'.cell? ⟨w.heap.size, 0, none⟩ = some (.bool a.v6) ∧ w'.cell? ⟨w.heap.size, 1, none⟩ = some (.int .u64 a.hi) ∧ w'.cell? ⟨w.heap.size, 2, none⟩ = some (.int .u64 a.lo) ∧ w'.cell? ⟨w.heap.size + 1, 0, none⟩ = some (.bool false) ∧ w'.cell? ⟨w.heap.size + 1, 1, none⟩ = some (.int .u64 0) ∧ w'.cell? ⟨w.heap.size + 1, 2, none⟩ = some (.int .u64 0) ∧ w'.cell? ⟨w.heap.size + 1, 3, none⟩ = some (.int .i64 0) ∧ w'.frozen? ⟨w.heap.size + 1, 0, none⟩ = false ∧ w'.frozen? ⟨w.heap.size + 1, 1, none⟩ = false ∧ w'.frozen? ⟨w.heap.size + 1, 2, none⟩ = false ∧ w'.frozen? ⟨w.heap.size + 1, 3, none⟩ = false ∧ Stays ((w.alloc (.cells #[.bool a.v6, .int .u64 a.hi, .int .u64 a.lo] 24)).alloc (.cells #[.bool false, .int .u64 0, .int .u64 0, .int .i64 0] 26)) w')
    (first
      | assumption
      | (refine IN.out _ ?_; repeat (first | exact Below.refl _ _ | exact Lib.Hid.out ‹_› | exact (‹SF a w _›).2.2.2.2.2.2.2.2.2.2.2 | refine low_drew ?_ | refine Below.alloc ?_ (by first | (simp; done) | (simp; omega)) _ | refine Below.setCell ?_ (by first | (simp; done) | (simp; omega)) _)))
    (first
      | (go_at_call 33; (with_reducible refine (K1.out _ ‹_›).mono ?_); rintro e wb ⟨rfl, hkw, hbw⟩; have hst := Lib.hid hkw.2.2.2.2.2.2.2.2.2.2.2; obtain ⟨z0, z1, z2, z3, z4, z5⟩ := sizes (show w.heap.size + 2 ≤ wb.heap.size by have := hkw.2.2.2.2.2.2.2.2.2.2.2.size; simpa using this); (try (have z6 : w.heap.size + 2 < wb.heap.size := by have := hbw.size; simp at this; omega)); obtain ⟨hcb, hfb⟩ := old hbw)
      | (go_at_call 24; (with_reducible refine (K2.out _ ‹_›).mono ?_); rintro e wm ⟨rfl, hkw, hbw⟩; have hst := Lib.hid hkw.2.2.2.2.2.2.2.2.2.2.2; obtain ⟨z0, z1, z2, z3, z4, z5⟩ := sizes (show w.heap.size + 2 ≤ wm.heap.size by have := hkw.2.2.2.2.2.2.2.2.2.2.2.size; simpa using this); (try (have z6 : w.heap.size + 2 < wm.heap.size := by have := hbw.size; simp at this; omega)); obtain ⟨hcm, hfm⟩ := old hbw))
  all_goals clear MK BI IN K1 K2
  all_goals (first
    | refine swap (P := fun w5 => Exit.then _ _ _ _ w5) (R := fun w5 => SF a w w5 ∧ OF (makeN a (bitsA a : Int)) wm.heap.size w5) ⟨by with_reducible assumption, by with_reducible exact own_new⟩ ?_
    | refine swap (P := fun w5 => Exit.then _ _ _ _ w5) (R := fun w5 => SF a w w5 ∧ OF (makeN a (bitsA a : Int)) wb.heap.size w5) ⟨by with_reducible assumption, by (with_reducible refine own_set ?_ ?_ ?_ ?_) <;> (rw [hcm _ _ (by simp)]; simp [go_sem])⟩ ?_
    | refine swap (P := fun w5 => Exit.then _ _ _ _ w5) (R := fun w5 => SF a w w5 ∧ OF (makeN a (bitsA a : Int)) (w.heap.size + 1 + 1) w5) ⟨by with_reducible assumption, by (with_reducible refine own_set ?_ ?_ ?_ ?_) <;> (rw [hcm _ _ (by omega), hcb _ _ (by simp)]; simp [go_sem])⟩ ?_)
  all_goals rintro w5 ⟨⟨k0, k1, k2, k3, k4, k5, k6, f0, f1, f2, f3, hs9⟩, o0, o1, o2, o3⟩
  all_goals try clear hcm hfm
  all_goals try clear hcb hfb
  all_goals go_wp2_with fail
  all_goals exact bodyPost_ret (v := .agg #[.bool (makeN a (bitsA a : Int)).a.v6, .int .u64 (makeN a (bitsA a : Int)).a.hi, .int .u64 (makeN a (bitsA a : Int)).a.lo, .int .i64 (makeN a (bitsA a : Int)).n]) (by simp [results, Tryd.results21, go_sem, k3, k4, k5, k6]) rfl ⟨rfl, (((((two_low _ _ _).trans (hs9.mono (by simp; omega))).setCell (by simp) _).setCell (by simp) _).setCell (by simp) _).setCell (by simp) _⟩
end Go.Proofs.YtpbgmgjnclhpmaaDoor.Ci
/- Contract of package cidr: masks. -/
namespace Go.Proofs.YtpbgmgjnclhpmaaDoor.Ci
set_option maxRecDepth 100000
open Go.ChangeShapes Go.WideShapes Go.ChangeAt Go.RowKit
open Dec Words V4 V6 Ad
set_option linter.unusedVariables false
theorem mfrozen_left {W w' : World} (h : Below W.heap.size W w') {b o : Nat} (hl : b < W.heap.size) (hc : W.frozen? ⟨b, o, none⟩ = false) : w'.frozen? ⟨b, o, none⟩ = false := ((old h).2 b o hl).trans hc
abbrev SM (a : Adr) (w : World) (w' : World) : Prop := w'.cell? ⟨w.heap.size, 0, none⟩ = some (.bool a.v6) ∧ w'.cell? ⟨w.heap.size, 1, none⟩ = some (.int .u64 a.hi) ∧ w'.cell? ⟨w.heap.size, 2, none⟩ = some (.int .u64 a.lo) ∧ w'.cell? ⟨w.heap.size + 1, 0, none⟩ = some (.bool false) ∧ w'.cell? ⟨w.heap.size + 1, 1, none⟩ = some (.int .u64 0) ∧ w'.cell? ⟨w.heap.size + 1, 2, none⟩ = some (.int .u64 0) ∧ w'.frozen? ⟨w.heap.size + 1, 0, none⟩ = false ∧ w'.frozen? ⟨w.heap.size + 1, 1, none⟩ = false ∧ w'.frozen? ⟨w.heap.size + 1, 2, none⟩ = false ∧ Stays ((w.alloc (.cells #[.bool a.v6, .int .u64 a.hi, .int .u64 a.lo] 24)).alloc (.cells #[.bool false, .int .u64 0, .int .u64 0] 24)) w'
theorem SM.of {a : Adr} {w w' : World} (h : Stays ((w.alloc (.cells #[.bool a.v6, .int .u64 a.hi, .int .u64 a.lo] 24)).alloc (.cells #[.bool false, .int .u64 0, .int .u64 0] 24)) w') : SM a w w' := ⟨cells_left h (by simp [go_sem]), cells_left h (by simp [go_sem]), cells_left h (by simp [go_sem]), cells_left h (by simp [go_sem]), cells_left h (by simp [go_sem]), cells_left h (by simp [go_sem]), mfrozen_left h (by simp) (by simp [go_sem]), mfrozen_left h (by simp) (by simp [go_sem]), mfrozen_left h (by simp) (by simp [go_sem]), h⟩
end Go.Proofs.YtpbgmgjnclhpmaaDoor.Ci
/- Contract of package cidr: texts. -/
namespace Go.Proofs.YtpbgmgjnclhpmaaDoor.Ci
set_option maxRecDepth 100000
open Go.ChangeShapes Go.WideShapes Go.ChangeAt Go.RowKit
open Dec Words V4 V6 Ad
set_option linter.unusedVariables false
abbrev ST (n : Net) (w w' : World) : Prop := w'.cell? ⟨w.heap.size, 0, none⟩ = some (.bool n.a.v6) ∧ w'.cell? ⟨w.heap.size, 1, none⟩ = some (.int .u64 n.a.hi) ∧ w'.cell? ⟨w.heap.size, 2, none⟩ = some (.int .u64 n.a.lo) ∧ w'.cell? ⟨w.heap.size, 3, none⟩ = some (.int .i64 n.n) ∧ Stays (w.alloc (.cells #[.bool n.a.v6, .int .u64 n.a.hi, .int .u64 n.a.lo, .int .i64 n.n] 26)) w'
theorem ST.of {n : Net} {w w' : World} (h : Stays (w.alloc (.cells #[.bool n.a.v6, .int .u64 n.a.hi, .int .u64 n.a.lo, .int .i64 n.n] 26)) w') : ST n w w' := ⟨cells_left h (by simp [go_sem]), cells_left h (by simp [go_sem]), cells_left h (by simp [go_sem]), cells_left h (by simp [go_sem]), h⟩
set_option maxHeartbeats 4000000 in
theorem textN_any (n : Net) (w : World) (hn : n.ok) :
    Calls Tryd.prog 14 #[.agg #[.bool n.a.v6, .int .u64 n.a.hi, .int .u64 n.a.lo, .int .i64 n.n]] w fun e w' => e = .returned (.string ⟨(textN n).toArray⟩) ∧ Below w.heap.size w w' := by
  have RI := Lib.hid (fun W => rightN_any n W hn)
  cases hr : rightN n
  · have E : Hid (textN n = []) := Lib.hid (textN_no hr)
    rw [hr] at RI
    clear hr
    go_enter Tryd.func14, Tryd.ntmps14
    go_wp2_with fail
    refine (RI.out _).mono ?_
    rintro e w1 ⟨rfl, hb1⟩
    go_wp2_with fail
    go_ret
    exact ⟨ret_s (a := []) E.out.symm, ((Below.refl _ _).alloc (Nat.le_refl _) _).trans (hb1.mono (by simp))⟩
  · have E : Hid (glue 47 [textA n.a, text n.n] = textN n) := Lib.hid (by unfold textN; rw [if_pos hr]; simp [glue])
    have hlen : (glue 47 [textA n.a, text n.n]).length ≤ 140737488355328 := by rw [E.out]; have := textN_len hn; omega
    rw [hr] at RI
    clear hr
    have K1 : Hid (∀ W, ST n w W → Calls Tryd.prog 27 #[.agg #[.bool n.a.v6, .int .u64 n.a.hi, .int .u64 n.a.lo]] W fun e w' => e = .returned (.string ⟨(textA n.a).toArray⟩) ∧ ST n w w') := Lib.hid fun W h => (textA_any n.a W hn.1).mono fun e w' ⟨he, hb⟩ => ⟨he, ST.of (low_trans h.2.2.2.2 hb)⟩
    have K2 : Hid (∀ W, ST n w W → Calls Tryd.prog 15 #[.int .i64 n.n] W fun e w' => e = .returned (.string ⟨(text n.n).toArray⟩) ∧ ST n w w') := Lib.hid fun W h => (text_any n.n W hn.2.1 hn.2.2).mono fun e w' ⟨he, hb⟩ => ⟨he, ST.of (low_trans h.2.2.2.2 hb)⟩
    have K3 : Hid (∀ W : World, ST n w W → Calls Tryd.prog 26 #[.slice (some ⟨W.heap.size, 0, none⟩) 2 2, .int .u8 47] (W.alloc (.cells #[.string ⟨(textA n.a).toArray⟩, .string ⟨(text n.n).toArray⟩] 9)) fun e w' => e = .returned (.string ⟨(glue 47 [textA n.a, text n.n]).toArray⟩) ∧ ST n w w') := Lib.hid fun W h => (join_any _ [textA n.a, text n.n] 47 _ (Txts.lit W [textA n.a, text n.n] #[.string ⟨(textA n.a).toArray⟩, .string ⟨(text n.n).toArray⟩] 9 rfl) (by simp) hlen).mono fun e w' ⟨he, hb⟩ => ⟨he, ST.of (low_trans (Below.alloc h.2.2.2.2 h.2.2.2.2.size _) hb)⟩
    have JD : Hid (∀ W, ST n w W → ST n w W.drew) := Lib.hid fun W h => ST.of (low_drewN h.2.2.2.2 1)
    have JA : Hid (∀ W o, ST n w W → ST n w (W.alloc o)) := Lib.hid fun W o h => ST.of (Below.alloc h.2.2.2.2 h.2.2.2.2.size o)
    clear hlen
    go_enter Tryd.func14, Tryd.ntmps14
    go_wp2_with fail
    refine (RI.out _).mono ?_
    rintro e w1 ⟨rfl, hb1⟩
    have hS1 : ST n w w1 := ST.of hb1
    clear hb1 RI
    obtain ⟨k0, k1, k2, k3, hs⟩ := id hS1
    go_wp2_with fail
    go_region_with (first
      | (go_at_call 27; (with_reducible refine (K1.out _ (by (repeat (first | assumption | refine JD.out _ ?_ | refine JA.out _ _ ?_)))).mono ?_); rintro e w9 ⟨rfl, hkw⟩; obtain ⟨k0, k1, k2, k3, hs⟩ := id hkw)
      | (go_at_call 15; (with_reducible refine (K2.out _ (by (repeat (first | assumption | refine JD.out _ ?_ | refine JA.out _ _ ?_)))).mono ?_); rintro e w9 ⟨rfl, hkw⟩; obtain ⟨k0, k1, k2, k3, hs⟩ := id hkw)
      | (go_at_call 26; refine (K3.out _ (by (repeat (first | assumption | refine JD.out _ ?_ | refine JA.out _ _ ?_)))).mono ?_; rintro e w9 ⟨rfl, hkw⟩; obtain ⟨k0, k1, k2, k3, hs⟩ := id hkw))
    all_goals clear K1 K2 K3 JD JA
    all_goals go_wp2_with fail
    all_goals go_ret
    all_goals exact ⟨ret_s E.out, ((Below.refl _ _).alloc (Nat.le_refl _) _).trans (hs.mono (by simp))⟩
end Go.Proofs.YtpbgmgjnclhpmaaDoor.Ci
/- Contracts of package cidr: what is read. -/
namespace Go.Proofs.YtpbgmgjnclhpmaaDoor.Ci
set_option maxRecDepth 100000
open Go.ChangeShapes Go.WideShapes Go.ChangeAt Go.RowKit
open Dec Words V4 V6 Ad
set_option linter.unusedVariables false
theorem cut_pre : ∀ l : List UInt8, cut 47 l = pre l :: (if slash l then cut 47 (post l) else [])
  | [] => by simp [cut, pre, slash]
  | b :: l => by
    by_cases e : b = 47
    · subst e
      rw [cut_hit]
      have h1 : pre (47 :: l) = [] := by simp [pre]
      have h2 : slash (47 :: l) = true := by simp [slash]
      have h3 : post (47 :: l) = l := by simp [post]
      rw [h1, h2, h3]; simp
    · obtain ⟨x, r, e1, e2⟩ := cut_off e l
      have ih := cut_pre l
      rw [e1] at ih
      have h1 : pre (b :: l) = b :: pre l := by unfold pre; rw [List.takeWhile_cons, if_pos (by simpa using e)]
      have h2 : slash (b :: l) = slash l := by unfold slash; rw [List.contains_cons]; simp [show (47 : UInt8) ≠ b from fun h => e h.symm]
      have h3 : post (b :: l) = post l := by unfold post; rw [List.dropWhile_cons, if_pos (by simpa using e)]
      rw [e2, h1, h2, h3]
      injection ih with i1 i2
      rw [i1, i2]
theorem pre_le (l : List UInt8) : (pre l).length ≤ l.length := by unfold pre; exact (List.takeWhile_sublist _).length_le
theorem post_le (l : List UInt8) : (post l).length ≤ l.length := by
  unfold post
  rw [List.length_drop]
  have := (List.dropWhile_sublist (l := l) (· != 47)).length_le
  omega
theorem cut_none_slash {l : List UInt8} (h : slash l = false) : cut 47 l = [pre l] := by rw [cut_pre, h]; rfl
theorem cut_one_slash {l : List UInt8} (h : slash l = true) (h2 : slash (post l) = false) : cut 47 l = [pre l, post l] := by
  rw [cut_pre, h, if_pos rfl, cut_pre (post l), h2]
  have h47 : (47 : UInt8) ∉ post l := by unfold slash at h2; simpa using h2
  rw [(pre_none h47).1]; rfl
theorem cut_more_slash {l : List UInt8} (h : slash l = true) (h2 : slash (post l) = true) : 2 < (cut 47 l).length := by
  rw [cut_pre, h, if_pos rfl, cut_pre (post l), h2, if_pos rfl, List.length_cons, List.length_cons]
  have := List.length_pos_iff.2 (cut_ne 47 (post (post l)))
  omega
theorem parB_slash {l : List UInt8} (h : slash l = true) (most : Int) : parB l most = false := parB_bad (c := 47) most (by unfold slash at h; simpa using h) (by decide)
def markN (hi lo : Nat) (i : Int) : Net := if 96 ≤ i then makeN (v6A hi lo) (i - 96) else makeN (firstA ⟨true, hi, lo⟩ i.toNat) i
def markB (hi lo : Nat) (i : Int) : Bool := if 96 ≤ i then makeB (v6A hi lo) (i - 96) else makeB (firstA ⟨true, hi, lo⟩ i.toNat) i
def ParseN (l : List UInt8) (w : World) (e : Ending) (w' : World) : Prop := e = .returned (.tuple #[.agg #[.bool (parseN l).a.v6, .int .u64 (parseN l).a.hi, .int .u64 (parseN l).a.lo, .int .i64 (parseN l).n], .bool (okN l)]) ∧ Below w.heap.size w w'
theorem parseN_mk {l : List UInt8} {w w' : World} {e : Ending} {n : Net} {b : Bool} (hn : parseN l = n) (hb : okN l = b) (he : e = .returned (.tuple #[.agg #[.bool n.a.v6, .int .u64 n.a.hi, .int .u64 n.a.lo, .int .i64 n.n], .bool b])) (h : Below w.heap.size w w') : ParseN l w e w' := by
  subst hn hb; exact ⟨he, h⟩
theorem okN_noA {l : List UInt8} (h : okA (pre l) = false) : okN l = false := by unfold okN; rw [h]; rfl
theorem okN_noB {l : List UInt8} (h : slash l = true) (h2 : parB (post l) 128 = false) : okN l = false := by unfold okN; rw [h, h2]; simp
theorem okN_full {l : List UInt8} (h : okA (pre l) = true) (h2 : slash l = false) : okN l = true ∧ parseN l = fullN (parseA (pre l)) := by
  have e : okN l = true := by unfold okN; rw [h, h2]; rfl
  refine ⟨e, ?_⟩
  unfold parseN; rw [e, h2]; rfl
theorem okN_mark {l : List UInt8} (h : slash l = true) (h2 : parB (post l) 128 = true) (h3 : marked (pre l) = true) : okN l = true ∧ parseN l = markN (hi6 (pre l)) (lo6 (pre l)) (bitsT l) ∧ markB (hi6 (pre l)) (lo6 (pre l)) (bitsT l) = true := by
  have hb := bitsT_bd l
  have h1 : okA (pre l) = true := by unfold okA; rw [(marked_is h3).1]; simp
  have e : okN l = true := (okN_iff l).2 ⟨h1, fun _ => ⟨h2, fun hm => by rw [h3] at hm; cases hm⟩⟩
  have m := marked_is h3
  refine ⟨e, ?_, ?_⟩
  · unfold parseN markN
    rw [if_pos e, if_pos h, if_pos h3]
    by_cases h96 : bitsT l < 96
    · rw [if_pos h96, if_neg (by omega), (marked_low _ _ hb.1 h96).2]
    · rw [if_neg h96, if_pos (by omega), m.2.2.2.1]
  · unfold markB
    by_cases h96 : bitsT l < 96
    · rw [if_neg (by omega)]; exact (marked_low _ _ hb.1 h96).1
    · rw [if_pos (by omega), ← m.2.2.2.1]; exact marked_make h3 (by omega) hb.2
theorem okN_make {l : List UInt8} (h1 : okA (pre l) = true) (h : slash l = true) (h2 : parB (post l) 128 = true) (h3 : marked (pre l) = false) : okN l = makeB (parseA (pre l)) (bitsT l) ∧ parseN l = makeN (parseA (pre l)) (bitsT l) := by
  have e : okN l = makeB (parseA (pre l)) (bitsT l) := by unfold okN; rw [h1, h, h2, h3]; simp
  refine ⟨e, ?_⟩
  cases hm : makeB (parseA (pre l)) (bitsT l)
  · rw [parseN_no (e.trans hm)]; unfold makeN; rw [hm]; rfl
  · unfold parseN; rw [e, hm, h, h3]; rfl
set_option maxHeartbeats 2000000 in
theorem ofMarked_any (hi lo : Nat) (i : Int) (w : World) (h1 : hi < 18446744073709551616) (h2 : lo < 18446744073709551616) (i1 : 0 ≤ i) (i2 : i ≤ 128) :
    Calls Tryd.prog 23 #[.int .u64 hi, .int .u64 lo, .int .i64 i] w fun e w' => e = .returned (.tuple #[.agg #[.bool (markN hi lo i).a.v6, .int .u64 (markN hi lo i).a.hi, .int .u64 (markN hi lo i).a.lo, .int .i64 (markN hi lo i).n], .bool (markB hi lo i)]) ∧ Below w.heap.size w w' := by
  by_cases h96 : 96 ≤ i
  · have EN : markN hi lo i = makeN (v6A hi lo) (i - 96) := by unfold markN; rw [if_pos h96]
    have EB : markB hi lo i = makeB (v6A hi lo) (i - 96) := by unfold markB; rw [if_pos h96]
    rw [EN, EB]
    clear EN EB
    have V := Lib.hid (fun W => v6_any hi lo W h1 h2)
    have MK := Lib.hid (fun W => make_any (v6A hi lo) (i - 96) W (v6A_ok h1 h2) (by omega) (by omega))
    go_enter Tryd.func23, Tryd.ntmps23
    go_wp2_with fail
    refine (V.out _).mono ?_
    rintro e w1 ⟨rfl, hb1⟩
    go_wp2_with fail
    refine (MK.out _).mono ?_
    rintro e w2 ⟨rfl, hb2⟩
    have hb12 := low_trans hb1 hb2
    obtain ⟨hc, hf⟩ := old hb12
    go_wp2_with fail
    exact bodyPost_ret (v := .tuple #[.agg #[.bool (makeN (v6A hi lo) (i - 96)).a.v6, .int .u64 (makeN (v6A hi lo) (i - 96)).a.hi, .int .u64 (makeN (v6A hi lo) (i - 96)).a.lo, .int .i64 (makeN (v6A hi lo) (i - 96)).n], .bool (makeB (v6A hi lo) (i - 96))]) (by simp [results, Tryd.results23, go_sem, hc]) rfl ⟨rfl, ((((((Below.refl _ _).alloc (Nat.le_refl _) _).trans (hb12.mono (by simp))).setCell (by simp) _).setCell (by simp) _).setCell (by simp) _).setCell (by simp) _⟩
  · have EN : markN hi lo i = makeN (firstA ⟨true, hi, lo⟩ i.toNat) i := by unfold markN; rw [if_neg h96]
    have EB : markB hi lo i = makeB (firstA ⟨true, hi, lo⟩ i.toNat) i := by unfold markB; rw [if_neg h96]
    rw [EN, EB]
    clear EN EB
    obtain ⟨k, rfl⟩ := Int.eq_ofNat_of_zero_le i1
    rw [Int.toNat_natCast]
    have hk : k ≤ 128 := by omega
    have hok : (⟨true, hi, lo⟩ : Adr).ok := ⟨h1, h2⟩
    have FI := Lib.hid (fun W => first_any ⟨true, hi, lo⟩ k W hok hk)
    have MK := Lib.hid (fun W => make_any (firstA ⟨true, hi, lo⟩ k) (k : Int) W (firstA_ok hok k) (by omega) (by omega))
    clear hok
    go_enter Tryd.func23, Tryd.ntmps23
    go_wp2_with fail
    refine (FI.out _).mono ?_
    rintro e w1 ⟨rfl, hb1⟩
    go_wp2_with fail
    refine (MK.out _).mono ?_
    rintro e w2 ⟨rfl, hb2⟩
    have hb12 := low_trans hb1 hb2
    obtain ⟨hc, hf⟩ := old hb12
    go_wp2_with fail
    exact bodyPost_ret (v := .tuple #[.agg #[.bool (makeN (firstA ⟨true, hi, lo⟩ k) (k : Int)).a.v6, .int .u64 (makeN (firstA ⟨true, hi, lo⟩ k) (k : Int)).a.hi, .int .u64 (makeN (firstA ⟨true, hi, lo⟩ k) (k : Int)).a.lo, .int .i64 (makeN (firstA ⟨true, hi, lo⟩ k) (k : Int)).n], .bool (makeB (firstA ⟨true, hi, lo⟩ k) (k : Int))]) (by simp [results, Tryd.results23, go_sem, hc]) rfl ⟨rfl, ((((((Below.refl _ _).alloc (Nat.le_refl _) _).trans (hb12.mono (by simp))).setCell (by simp) _).setCell (by simp) _).setCell (by simp) _).setCell (by simp) _⟩
theorem Txts.cons {w : World} {v : Value} {x : List UInt8} {ls : List (List UInt8)} (h : Txts w v (x :: ls)) : ∃ b o c, v = .slice (some ⟨b, o, none⟩) (x :: ls).length c ∧ b < w.heap.size ∧ ls.length + 1 ≤ c ∧ w.cell? ⟨b, o, none⟩ = some (.string ⟨x.toArray⟩) ∧ ∀ y, ls[0]? = some y → w.cell? ⟨b, o + 1, none⟩ = some (.string ⟨y.toArray⟩) := by
  obtain ⟨A, c, rfl, hcap, h⟩ := h
  obtain ⟨b, o, rfl, hb, hc⟩ := h (by simp)
  refine ⟨b, o, c, rfl, hb, by simpa using hcap, by have := hc 0 (by simp); simpa only [Nat.add_zero, List.getElem_cons_zero] using this, fun y hy => ?_⟩
  obtain ⟨hlt, he⟩ := List.getElem?_eq_some_iff.1 hy
  rw [hc 1 (by simp; omega)]
  simp [he]
set_option maxHeartbeats 2000000 in
theorem parseN_A (l : List UInt8) (w : World) (hl : l.length < 4294966000) (hL : Lens w) (hA : okA (pre l) = false) : Calls Tryd.prog 11 #[.string ⟨l.toArray⟩] w (ParseN l w) := by
  have PA := Lib.hid (parseA_any (pre l))
  unfold ParseA at PA
  rw [hA] at PA
  have hpl := pre_le l
  have hql := post_le l
  have E2 := Lib.hid (okN_noA hA)
  have E1 := Lib.hid (parseN_no E2.out)
  obtain ⟨r, hr⟩ : ∃ r, r = (if slash l then cut 47 (post l) else []) := ⟨_, rfl⟩
  have HCUT : Hid (cut 47 l = pre l :: r) := Lib.hid (by rw [hr]; exact cut_pre l)
  clear hr hA
  have SP : Hid (∀ W, Calls Tryd.prog 10 #[.string ⟨l.toArray⟩, .int .u8 47] W (RetTxts (pre l :: r) W)) := Lib.hid fun W => by have h := split_list l 47 W (by omega); rwa [HCUT.out] at h
  go_enter Tryd.func11, Tryd.ntmps11
  go_wp2_with fail
  refine (SP.out _).mono ?_
  rintro e w1 ⟨v, rfl, hv, hb1⟩
  obtain ⟨b, o, c, rfl, hbl, hcap, hc0, hc1⟩ := Txts.cons hv
  rw [List.length_cons] at *
  generalize r.length = m at *
  clear hc1
  have hL1 := (hL.below ((Below.refl _ _).alloc (Nat.le_refl _) _)).below hb1
  clear hv
  go_wp2_with fail
  refine (PA.out _ (by omega) hL1).mono ?_
  rintro e w2 ⟨rfl, hb2⟩
  have hb12 := low_trans hb1 hb2
  have hL2 := hL1.below hb2
  have zs : w.heap.size + 1 ≤ w2.heap.size := by have := hb12.size; simpa using this
  have z0 : w.heap.size < w2.heap.size := by omega
  have z1 : ¬ w.heap.size = w2.heap.size := by omega
  have z2 : ¬ w2.heap.size = w.heap.size := by omega
  clear zs
  obtain ⟨hc, hf⟩ := old hb12
  go_wp2_with fail
  exact bodyPost_ret (v := .tuple #[.agg #[.bool false, .int .u64 0, .int .u64 0, .int .i64 0], .bool false]) (by simp [results, Tryd.results11, go_sem, hc, z0]) rfl (parseN_mk E1.out E2.out rfl ((((((((Below.refl _ _).alloc (Nat.le_refl _) _).trans (hb12.mono (by simp))).setCell (by simp) _).setCell (by simp) _).setCell (by simp) _).setCell (by simp) _).alloc (by simp; omega) _))
set_option maxHeartbeats 2000000 in
theorem parseN_B (l : List UInt8) (w : World) (hl : l.length < 4294966000) (hL : Lens w) (hA : okA (pre l) = true) (h1 : slash l = true) (h2 : slash (post l) = true) : Calls Tryd.prog 11 #[.string ⟨l.toArray⟩] w (ParseN l w) := by
  have PA := Lib.hid (parseA_any (pre l))
  unfold ParseA at PA
  rw [hA] at PA
  have hpl := pre_le l
  have hql := post_le l
  have E2 := Lib.hid (okN_noB h1 (parB_slash h2 128))
  have E1 := Lib.hid (parseN_no E2.out)
  have hm := cut_more_slash h1 h2
  obtain ⟨r, hr⟩ : ∃ r, r = (if slash l then cut 47 (post l) else []) := ⟨_, rfl⟩
  have hcut : cut 47 l = pre l :: r := by rw [hr]; exact cut_pre l
  rw [hcut, List.length_cons] at hm
  have HCUT := Lib.hid hcut
  clear hr hA hcut h1 h2
  have SP : Hid (∀ W, Calls Tryd.prog 10 #[.string ⟨l.toArray⟩, .int .u8 47] W (RetTxts (pre l :: r) W)) := Lib.hid fun W => by have h := split_list l 47 W (by omega); rwa [HCUT.out] at h
  go_enter Tryd.func11, Tryd.ntmps11
  go_wp2_with fail
  refine (SP.out _).mono ?_
  rintro e w1 ⟨v, rfl, hv, hb1⟩
  obtain ⟨b, o, c, rfl, hbl, hcap, hc0, hc1⟩ := Txts.cons hv
  rw [List.length_cons] at *
  generalize r.length = m at *
  clear hc1
  have hm2 : (2 : Int) < (m : Int) + 1 := by omega
  have hL1 := (hL.below ((Below.refl _ _).alloc (Nat.le_refl _) _)).below hb1
  clear hv
  go_wp2_with fail
  refine (PA.out _ (by omega) hL1).mono ?_
  rintro e w2 ⟨rfl, hb2⟩
  have hb12 := low_trans hb1 hb2
  have hL2 := hL1.below hb2
  have zs : w.heap.size + 1 ≤ w2.heap.size := by have := hb12.size; simpa using this
  have z0 : w.heap.size < w2.heap.size := by omega
  have z1 : ¬ w.heap.size = w2.heap.size := by omega
  have z2 : ¬ w2.heap.size = w.heap.size := by omega
  clear zs
  obtain ⟨hc, hf⟩ := old hb12
  go_wp2_with fail
  exact bodyPost_ret (v := .tuple #[.agg #[.bool false, .int .u64 0, .int .u64 0, .int .i64 0], .bool false]) (by simp [results, Tryd.results11, go_sem, hc, z0]) rfl (parseN_mk E1.out E2.out rfl ((((((((Below.refl _ _).alloc (Nat.le_refl _) _).trans (hb12.mono (by simp))).setCell (by simp) _).setCell (by simp) _).setCell (by simp) _).setCell (by simp) _).alloc (by simp; omega) _))
set_option maxHeartbeats 2000000 in
theorem parseN_C (l : List UInt8) (w : World) (hl : l.length < 4294966000) (hL : Lens w) (hA : okA (pre l) = true) (h1 : slash l = false) : Calls Tryd.prog 11 #[.string ⟨l.toArray⟩] w (ParseN l w) := by
  have PA := Lib.hid (parseA_any (pre l))
  unfold ParseA at PA
  rw [hA] at PA
  have hpl := pre_le l
  have hql := post_le l
  have E1 := Lib.hid (okN_full hA h1).2
  have E2 := Lib.hid (okN_full hA h1).1
  have HCUT := Lib.hid (cut_none_slash h1)
  have FU := Lib.hid (fun W => full_any (parseA (pre l)) W (parseA_ok _))
  clear hA h1
  have SP : Hid (∀ W, Calls Tryd.prog 10 #[.string ⟨l.toArray⟩, .int .u8 47] W (RetTxts (pre l :: []) W)) := Lib.hid fun W => by have h := split_list l 47 W (by omega); rwa [HCUT.out] at h
  go_enter Tryd.func11, Tryd.ntmps11
  go_wp2_with fail
  refine (SP.out _).mono ?_
  rintro e w1 ⟨v, rfl, hv, hb1⟩
  obtain ⟨b, o, c, rfl, hbl, hcap, hc0, hc1⟩ := Txts.cons hv
  clear hc1
  have hL1 := (hL.below ((Below.refl _ _).alloc (Nat.le_refl _) _)).below hb1
  clear hv
  go_wp2_with fail
  refine (PA.out _ (by omega) hL1).mono ?_
  rintro e w2 ⟨rfl, hb2⟩
  have hb12 := low_trans hb1 hb2
  have hL2 := hL1.below hb2
  have zs : w.heap.size + 1 ≤ w2.heap.size := by have := hb12.size; simpa using this
  have z0 : w.heap.size < w2.heap.size := by omega
  have z1 : ¬ w.heap.size = w2.heap.size := by omega
  have z2 : ¬ w2.heap.size = w.heap.size := by omega
  clear zs
  go_wp2_with fail
  refine (FU.out _).mono ?_
  rintro e w3 ⟨rfl, hb3⟩
  have hb13 := low_trans (hb12.alloc hb12.size (.cells #[.bool (parseA (pre l)).v6, .int .u64 (parseA (pre l)).hi, .int .u64 (parseA (pre l)).lo] 24)) hb3
  obtain ⟨hc, hf⟩ := old hb13
  go_wp2_with fail
  exact bodyPost_ret (v := .tuple #[.agg #[.bool (fullN (parseA (pre l))).a.v6, .int .u64 (fullN (parseA (pre l))).a.hi, .int .u64 (fullN (parseA (pre l))).a.lo, .int .i64 (fullN (parseA (pre l))).n], .bool true]) (by simp [results, Tryd.results11, go_sem, hc]) rfl (parseN_mk E1.out E2.out rfl (((((((Below.refl _ _).alloc (Nat.le_refl _) _).trans (hb13.mono (by simp))).setCell (by simp) _).setCell (by simp) _).setCell (by simp) _).setCell (by simp) _))
set_option maxHeartbeats 2000000 in
theorem parseN_D (l : List UInt8) (w : World) (hl : l.length < 4294966000) (hL : Lens w) (hA : okA (pre l) = true) (h1 : slash l = true) (h2 : slash (post l) = false) (h3 : parB (post l) 128 = false) : Calls Tryd.prog 11 #[.string ⟨l.toArray⟩] w (ParseN l w) := by
  have PA := Lib.hid (parseA_any (pre l))
  unfold ParseA at PA
  rw [hA] at PA
  have hpl := pre_le l
  have hql := post_le l
  have E2 := Lib.hid (okN_noB h1 h3)
  have E1 := Lib.hid (parseN_no E2.out)
  have HCUT := Lib.hid (cut_one_slash h1 h2)
  have PB := Lib.hid (fun W => parse_list (post l) 128 W (by omega) (by omega) (by omega))
  rw [h3] at PB
  clear hA h1 h2 h3
  have SP : Hid (∀ W, Calls Tryd.prog 10 #[.string ⟨l.toArray⟩, .int .u8 47] W (RetTxts (pre l :: [post l]) W)) := Lib.hid fun W => by have h := split_list l 47 W (by omega); rwa [HCUT.out] at h
  go_enter Tryd.func11, Tryd.ntmps11
  go_wp2_with fail
  refine (SP.out _).mono ?_
  rintro e w1 ⟨v, rfl, hv, hb1⟩
  obtain ⟨b, o, c, rfl, hbl, hcap, hc0, hc1⟩ := Txts.cons hv
  have hc2 := hc1 (post l) rfl
  clear hc1
  have hL1 := (hL.below ((Below.refl _ _).alloc (Nat.le_refl _) _)).below hb1
  clear hv
  go_wp2_with fail
  refine (PA.out _ (by omega) hL1).mono ?_
  rintro e w2 ⟨rfl, hb2⟩
  have hb12 := low_trans hb1 hb2
  have hL2 := hL1.below hb2
  have zs : w.heap.size + 1 ≤ w2.heap.size := by have := hb12.size; simpa using this
  have z0 : w.heap.size < w2.heap.size := by omega
  have z1 : ¬ w.heap.size = w2.heap.size := by omega
  have z2 : ¬ w2.heap.size = w.heap.size := by omega
  clear zs
  have hd0 : w2.cell? ⟨b, o, none⟩ = some (.string ⟨(pre l).toArray⟩) := (hb2.cell (p := ⟨b, o, none⟩) hbl).trans hc0
  have hd1 : w2.cell? ⟨b, o + 1, none⟩ = some (.string ⟨(post l).toArray⟩) := (hb2.cell (p := ⟨b, o + 1, none⟩) hbl).trans hc2
  have hbl2 : b < w2.heap.size := Nat.lt_of_lt_of_le hbl hb2.size
  go_wp2_with fail
  refine (PB.out _).mono ?_
  rintro e w3 ⟨rfl, rfl⟩
  obtain ⟨hc, hf⟩ := old hb12
  go_wp2_with fail
  exact bodyPost_ret (v := .tuple #[.agg #[.bool false, .int .u64 0, .int .u64 0, .int .i64 0], .bool false]) (by simp [results, Tryd.results11, go_sem, hc, z0]) rfl (parseN_mk E1.out E2.out rfl ((((((((Below.refl _ _).alloc (Nat.le_refl _) _).trans (hb12.mono (by simp))).setCell (by simp) _).setCell (by simp) _).setCell (by simp) _).setCell (by simp) _).alloc (by simp; omega) _))
set_option maxHeartbeats 2000000 in
theorem parseN_E (l : List UInt8) (w : World) (hl : l.length < 4294966000) (hL : Lens w) (hA : okA (pre l) = true) (h1 : slash l = true) (h2 : slash (post l) = false) (h3 : parB (post l) 128 = true) (h4 : marked (pre l) = true) : Calls Tryd.prog 11 #[.string ⟨l.toArray⟩] w (ParseN l w) := by
  have PA := Lib.hid (parseA_any (pre l))
  unfold ParseA at PA
  rw [hA] at PA
  have hpl := pre_le l
  have hql := post_le l
  have E2 := Lib.hid (okN_mark h1 h3 h4).1
  have E1 := Lib.hid (okN_mark h1 h3 h4).2.1
  have EM := (okN_mark h1 h3 h4).2.2
  have hm := marked_is h4
  have hv : (parseA (pre l)).v6 = false := by rw [hm.2.2.2.2]
  have HCUT := Lib.hid (cut_one_slash h1 h2)
  have PB := Lib.hid (fun W => parse_list (post l) 128 W (by omega) (by omega) (by omega))
  rw [h3, show parN (post l) 128 = bitsT l from rfl] at PB
  have hbt := bitsT_bd l
  have P6 := Lib.hid (parse6_any (pre l))
  unfold Parse6 at P6
  rw [hm.1] at P6
  have OM := Lib.hid (fun W => ofMarked_any (hi6 (pre l)) (lo6 (pre l)) (bitsT l) W (hi6_lt _) (lo6_lt _) hbt.1 hbt.2)
  rw [EM] at OM
  clear hA h1 h2 h3 h4 EM hm
  have SP : Hid (∀ W, Calls Tryd.prog 10 #[.string ⟨l.toArray⟩, .int .u8 47] W (RetTxts (pre l :: [post l]) W)) := Lib.hid fun W => by have h := split_list l 47 W (by omega); rwa [HCUT.out] at h
  go_enter Tryd.func11, Tryd.ntmps11
  go_wp2_with fail
  refine (SP.out _).mono ?_
  rintro e w1 ⟨v, rfl, hv, hb1⟩
  obtain ⟨b, o, c, rfl, hbl, hcap, hc0, hc1⟩ := Txts.cons hv
  have hc2 := hc1 (post l) rfl
  clear hc1
  have hL1 := (hL.below ((Below.refl _ _).alloc (Nat.le_refl _) _)).below hb1
  clear hv
  go_wp2_with fail
  refine (PA.out _ (by omega) hL1).mono ?_
  rintro e w2 ⟨rfl, hb2⟩
  have hb12 := low_trans hb1 hb2
  have hL2 := hL1.below hb2
  have zs : w.heap.size + 1 ≤ w2.heap.size := by have := hb12.size; simpa using this
  have z0 : w.heap.size < w2.heap.size := by omega
  have z1 : ¬ w.heap.size = w2.heap.size := by omega
  have z2 : ¬ w2.heap.size = w.heap.size := by omega
  clear zs
  have hd0 : w2.cell? ⟨b, o, none⟩ = some (.string ⟨(pre l).toArray⟩) := (hb2.cell (p := ⟨b, o, none⟩) hbl).trans hc0
  have hd1 : w2.cell? ⟨b, o + 1, none⟩ = some (.string ⟨(post l).toArray⟩) := (hb2.cell (p := ⟨b, o + 1, none⟩) hbl).trans hc2
  have hbl2 : b < w2.heap.size := Nat.lt_of_lt_of_le hbl hb2.size
  go_wp2_with fail
  refine (PB.out _).mono ?_
  rintro e w3 ⟨rfl, rfl⟩
  have hL3 := hL2.below ((Below.refl _ _).alloc (Nat.le_refl _) (.cells #[.bool false, .int .u64 (parseA (pre l)).hi, .int .u64 (parseA (pre l)).lo] 24))
  go_wp2_with fail
  refine (P6.out _ (by omega) hL3).mono ?_
  rintro e w4 ⟨rfl, hb4⟩
  have hb14 := low_trans (hb12.alloc hb12.size (.cells #[.bool false, .int .u64 (parseA (pre l)).hi, .int .u64 (parseA (pre l)).lo] 24)) hb4
  have hx0 : w4.cell? ⟨w2.heap.size, 0, none⟩ = some (.bool false) := cells_left hb4 (by simp [go_sem])
  have hx1 : w4.cell? ⟨w2.heap.size, 1, none⟩ = some (.int .u64 (parseA (pre l)).hi) := cells_left hb4 (by simp [go_sem])
  have hx2 : w4.cell? ⟨w2.heap.size, 2, none⟩ = some (.int .u64 (parseA (pre l)).lo) := cells_left hb4 (by simp [go_sem])
  go_wp2_with fail
  refine (OM.out _).mono ?_
  rintro e w5 ⟨rfl, hb5⟩
  have hb15 := low_trans hb14 hb5
  obtain ⟨hc, hf⟩ := old hb15
  go_wp2_with fail
  exact bodyPost_ret (v := .tuple #[.agg #[.bool (markN (hi6 (pre l)) (lo6 (pre l)) (bitsT l)).a.v6, .int .u64 (markN (hi6 (pre l)) (lo6 (pre l)) (bitsT l)).a.hi, .int .u64 (markN (hi6 (pre l)) (lo6 (pre l)) (bitsT l)).a.lo, .int .i64 (markN (hi6 (pre l)) (lo6 (pre l)) (bitsT l)).n], .bool true]) (by simp [results, Tryd.results11, go_sem, hc]) rfl (parseN_mk E1.out E2.out rfl (((((((Below.refl _ _).alloc (Nat.le_refl _) _).trans (hb15.mono (by simp))).setCell (by simp) _).setCell (by simp) _).setCell (by simp) _).setCell (by simp) _))
set_option maxHeartbeats 2000000 in
theorem parseN_F (l : List UInt8) (w : World) (hl : l.length < 4294966000) (hL : Lens w) (hA : okA (pre l) = true) (h1 : slash l = true) (h2 : slash (post l) = false) (h3 : parB (post l) 128 = true) (h6 : ok6 (pre l) = false) : Calls Tryd.prog 11 #[.string ⟨l.toArray⟩] w (ParseN l w) := by
  have PA := Lib.hid (parseA_any (pre l))
  unfold ParseA at PA
  rw [hA] at PA
  have hpl := pre_le l
  have hql := post_le l
  have E2 := Lib.hid (okN_make hA h1 h3 (by unfold marked; rw [h6]; rfl)).1
  have E1 := Lib.hid (okN_make hA h1 h3 (by unfold marked; rw [h6]; rfl)).2
  have HCUT := Lib.hid (cut_one_slash h1 h2)
  have PB := Lib.hid (fun W => parse_list (post l) 128 W (by omega) (by omega) (by omega))
  rw [h3, show parN (post l) 128 = bitsT l from rfl] at PB
  have hbt := bitsT_bd l
  have P6 := Lib.hid (parse6_any (pre l))
  unfold Parse6 at P6
  rw [h6] at P6
  have MK := Lib.hid (fun W => make_any (parseA (pre l)) (bitsT l) W (parseA_ok _) (by omega) (by omega))
  clear hA h1 h2 h3 h6
  have SP : Hid (∀ W, Calls Tryd.prog 10 #[.string ⟨l.toArray⟩, .int .u8 47] W (RetTxts (pre l :: [post l]) W)) := Lib.hid fun W => by have h := split_list l 47 W (by omega); rwa [HCUT.out] at h
  go_enter Tryd.func11, Tryd.ntmps11
  go_wp2_with fail
  refine (SP.out _).mono ?_
  rintro e w1 ⟨v, rfl, hv, hb1⟩
  obtain ⟨b, o, c, rfl, hbl, hcap, hc0, hc1⟩ := Txts.cons hv
  have hc2 := hc1 (post l) rfl
  clear hc1
  have hL1 := (hL.below ((Below.refl _ _).alloc (Nat.le_refl _) _)).below hb1
  clear hv
  go_wp2_with fail
  refine (PA.out _ (by omega) hL1).mono ?_
  rintro e w2 ⟨rfl, hb2⟩
  have hb12 := low_trans hb1 hb2
  have hL2 := hL1.below hb2
  have zs : w.heap.size + 1 ≤ w2.heap.size := by have := hb12.size; simpa using this
  have z0 : w.heap.size < w2.heap.size := by omega
  have z1 : ¬ w.heap.size = w2.heap.size := by omega
  have z2 : ¬ w2.heap.size = w.heap.size := by omega
  clear zs
  have hd0 : w2.cell? ⟨b, o, none⟩ = some (.string ⟨(pre l).toArray⟩) := (hb2.cell (p := ⟨b, o, none⟩) hbl).trans hc0
  have hd1 : w2.cell? ⟨b, o + 1, none⟩ = some (.string ⟨(post l).toArray⟩) := (hb2.cell (p := ⟨b, o + 1, none⟩) hbl).trans hc2
  have hbl2 : b < w2.heap.size := Nat.lt_of_lt_of_le hbl hb2.size
  go_wp2_with fail
  refine (PB.out _).mono ?_
  rintro e w3 ⟨rfl, rfl⟩
  have hL3 := hL2.below ((Below.refl _ _).alloc (Nat.le_refl _) (.cells #[.bool (parseA (pre l)).v6, .int .u64 (parseA (pre l)).hi, .int .u64 (parseA (pre l)).lo] 24))
  go_wp2_with fail
  refine (P6.out _ (by omega) hL3).mono ?_
  rintro e w4 ⟨rfl, hb4⟩
  have hb14 := low_trans (hb12.alloc hb12.size (.cells #[.bool (parseA (pre l)).v6, .int .u64 (parseA (pre l)).hi, .int .u64 (parseA (pre l)).lo] 24)) hb4
  have hx0 : w4.cell? ⟨w2.heap.size, 0, none⟩ = some (.bool (parseA (pre l)).v6) := cells_left hb4 (by simp [go_sem])
  have hx1 : w4.cell? ⟨w2.heap.size, 1, none⟩ = some (.int .u64 (parseA (pre l)).hi) := cells_left hb4 (by simp [go_sem])
  have hx2 : w4.cell? ⟨w2.heap.size, 2, none⟩ = some (.int .u64 (parseA (pre l)).lo) := cells_left hb4 (by simp [go_sem])
  go_wp2_with fail
  refine (MK.out _).mono ?_
  rintro e w5 ⟨rfl, hb5⟩
  have hb15 := low_trans hb14 hb5
  obtain ⟨hc, hf⟩ := old hb15
  go_wp2_with fail
  exact bodyPost_ret (v := .tuple #[.agg #[.bool (makeN (parseA (pre l)) (bitsT l)).a.v6, .int .u64 (makeN (parseA (pre l)) (bitsT l)).a.hi, .int .u64 (makeN (parseA (pre l)) (bitsT l)).a.lo, .int .i64 (makeN (parseA (pre l)) (bitsT l)).n], .bool (makeB (parseA (pre l)) (bitsT l))]) (by simp [results, Tryd.results11, go_sem, hc]) rfl (parseN_mk E1.out E2.out rfl (((((((Below.refl _ _).alloc (Nat.le_refl _) _).trans (hb15.mono (by simp))).setCell (by simp) _).setCell (by simp) _).setCell (by simp) _).setCell (by simp) _))
set_option maxHeartbeats 2000000 in
theorem parseN_G (l : List UInt8) (w : World) (hl : l.length < 4294966000) (hL : Lens w) (hA : okA (pre l) = true) (h1 : slash l = true) (h2 : slash (post l) = false) (h3 : parB (post l) 128 = true) (h6 : ok6 (pre l) = true) (hv : (parseA (pre l)).v6 = true) : Calls Tryd.prog 11 #[.string ⟨l.toArray⟩] w (ParseN l w) := by
  have PA := Lib.hid (parseA_any (pre l))
  unfold ParseA at PA
  rw [hA] at PA
  have hpl := pre_le l
  have hql := post_le l
  have E2 := Lib.hid (okN_make hA h1 h3 (by unfold marked; rw [hv]; simp)).1
  have E1 := Lib.hid (okN_make hA h1 h3 (by unfold marked; rw [hv]; simp)).2
  have HCUT := Lib.hid (cut_one_slash h1 h2)
  have PB := Lib.hid (fun W => parse_list (post l) 128 W (by omega) (by omega) (by omega))
  rw [h3, show parN (post l) 128 = bitsT l from rfl] at PB
  have hbt := bitsT_bd l
  have P6 := Lib.hid (parse6_any (pre l))
  unfold Parse6 at P6
  rw [h6] at P6
  have MK := Lib.hid (fun W => make_any (parseA (pre l)) (bitsT l) W (parseA_ok _) (by omega) (by omega))
  clear hA h1 h2 h3 h6
  rw [hv] at MK
  have SP : Hid (∀ W, Calls Tryd.prog 10 #[.string ⟨l.toArray⟩, .int .u8 47] W (RetTxts (pre l :: [post l]) W)) := Lib.hid fun W => by have h := split_list l 47 W (by omega); rwa [HCUT.out] at h
  go_enter Tryd.func11, Tryd.ntmps11
  go_wp2_with fail
  refine (SP.out _).mono ?_
  rintro e w1 ⟨v, rfl, hv, hb1⟩
  obtain ⟨b, o, c, rfl, hbl, hcap, hc0, hc1⟩ := Txts.cons hv
  have hc2 := hc1 (post l) rfl
  clear hc1
  have hL1 := (hL.below ((Below.refl _ _).alloc (Nat.le_refl _) _)).below hb1
  clear hv
  go_wp2_with fail
  refine (PA.out _ (by omega) hL1).mono ?_
  rintro e w2 ⟨rfl, hb2⟩
  have hb12 := low_trans hb1 hb2
  have hL2 := hL1.below hb2
  have zs : w.heap.size + 1 ≤ w2.heap.size := by have := hb12.size; simpa using this
  have z0 : w.heap.size < w2.heap.size := by omega
  have z1 : ¬ w.heap.size = w2.heap.size := by omega
  have z2 : ¬ w2.heap.size = w.heap.size := by omega
  clear zs
  have hd0 : w2.cell? ⟨b, o, none⟩ = some (.string ⟨(pre l).toArray⟩) := (hb2.cell (p := ⟨b, o, none⟩) hbl).trans hc0
  have hd1 : w2.cell? ⟨b, o + 1, none⟩ = some (.string ⟨(post l).toArray⟩) := (hb2.cell (p := ⟨b, o + 1, none⟩) hbl).trans hc2
  have hbl2 : b < w2.heap.size := Nat.lt_of_lt_of_le hbl hb2.size
  go_wp2_with fail
  refine (PB.out _).mono ?_
  rintro e w3 ⟨rfl, rfl⟩
  have hL3 := hL2.below ((Below.refl _ _).alloc (Nat.le_refl _) (.cells #[.bool true, .int .u64 (parseA (pre l)).hi, .int .u64 (parseA (pre l)).lo] 24))
  go_wp2_with fail
  refine (P6.out _ (by omega) hL3).mono ?_
  rintro e w4 ⟨rfl, hb4⟩
  have hb14 := low_trans (hb12.alloc hb12.size (.cells #[.bool true, .int .u64 (parseA (pre l)).hi, .int .u64 (parseA (pre l)).lo] 24)) hb4
  have hx0 : w4.cell? ⟨w2.heap.size, 0, none⟩ = some (.bool true) := cells_left hb4 (by simp [go_sem])
  have hx1 : w4.cell? ⟨w2.heap.size, 1, none⟩ = some (.int .u64 (parseA (pre l)).hi) := cells_left hb4 (by simp [go_sem])
  have hx2 : w4.cell? ⟨w2.heap.size, 2, none⟩ = some (.int .u64 (parseA (pre l)).lo) := cells_left hb4 (by simp [go_sem])
  go_wp2_with fail
  refine (MK.out _).mono ?_
  rintro e w5 ⟨rfl, hb5⟩
  have hb15 := low_trans hb14 hb5
  obtain ⟨hc, hf⟩ := old hb15
  go_wp2_with fail
  exact bodyPost_ret (v := .tuple #[.agg #[.bool (makeN (parseA (pre l)) (bitsT l)).a.v6, .int .u64 (makeN (parseA (pre l)) (bitsT l)).a.hi, .int .u64 (makeN (parseA (pre l)) (bitsT l)).a.lo, .int .i64 (makeN (parseA (pre l)) (bitsT l)).n], .bool (makeB (parseA (pre l)) (bitsT l))]) (by simp [results, Tryd.results11, go_sem, hc]) rfl (parseN_mk E1.out E2.out rfl (((((((Below.refl _ _).alloc (Nat.le_refl _) _).trans (hb15.mono (by simp))).setCell (by simp) _).setCell (by simp) _).setCell (by simp) _).setCell (by simp) _))
theorem parseN_any (l : List UInt8) (w : World) (hl : l.length < 4294966000) (hL : Lens w) : Calls Tryd.prog 11 #[.string ⟨l.toArray⟩] w (ParseN l w) := by
  cases hA : okA (pre l)
  · exact parseN_A l w hl hL hA
  · cases h1 : slash l
    · exact parseN_C l w hl hL hA h1
    · cases h2 : slash (post l)
      · cases h3 : parB (post l) 128
        · exact parseN_D l w hl hL hA h1 h2 h3
        · cases h6 : ok6 (pre l)
          · exact parseN_F l w hl hL hA h1 h2 h3 h6
          · cases hv : (parseA (pre l)).v6
            · exact parseN_E l w hl hL hA h1 h2 h3 (by unfold marked; rw [h6, hv]; rfl)
            · exact parseN_G l w hl hL hA h1 h2 h3 h6 hv
      · exact parseN_B l w hl hL hA h1 h2
end Go.Proofs.YtpbgmgjnclhpmaaDoor.Ci
