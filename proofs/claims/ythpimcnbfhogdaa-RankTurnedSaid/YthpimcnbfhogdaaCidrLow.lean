/- Contracts of package cidr: what is made, masked, written. -/
import Derived.Test.YthpimcnbfhogdaaCidrKit
namespace Go.Proofs.Ythpimcnbfhogdaa.Ci
set_option maxRecDepth 100000
open Go.ChangeShapes Go.WideShapes Go.ChangeAt Go.RowKit
open Dec Words V4 V6 Ad
set_option linter.unusedVariables false
theorem shr_keep (x y : Nat) (hx : x < 18446744073709551616) : Op.shift .shr .u64 (x : Int) .i64 (y : Int) = pure (.int .u64 ((x / 2 ^ y : Nat) : Int)) := by
  have hp : (0 : Int) ≤ 2 ^ min y 64 := Int.pow_nonneg (by decide)
  have e : (x : Int).fdiv (2 ^ min y 64) = ((x / 2 ^ y : Nat) : Int) := by
    rw [Int.fdiv_eq_ediv_of_nonneg _ hp]
    by_cases h : y ≤ 64
    · rw [Nat.min_eq_left h]; norm_cast
    · rw [Nat.min_eq_right (by omega), Nat.div_eq_of_lt (Nat.lt_of_lt_of_le hx (Nat.pow_le_pow_right (n := 2) (i := 64) (by omega) (by omega)))]
      have : ((2 : Int) ^ 64) = 18446744073709551616 := by decide
      rw [this]; omega
  have hn : ¬ (y : Int) < 0 := by omega
  simp only [Op.shift, if_neg hn, Int.toNat_natCast, IntKind.bits]
  rw [e]
theorem shl_keep (x y : Nat) (hx : x < 18446744073709551616) : Op.shift .shl .u64 ((x / 2 ^ y : Nat) : Int) .i64 (y : Int) = pure (.int .u64 ((keep x y : Nat) : Int)) := by
  have hk := keep_le x y
  have e : IntKind.u64.wrap (((x / 2 ^ y : Nat) : Int) * 2 ^ min y 64) = ((keep x y : Nat) : Int) := by
    rw [IntKind.wrap_u64]
    by_cases h : y ≤ 64
    · rw [Nat.min_eq_left h]
      have : ((x / 2 ^ y : Nat) : Int) * 2 ^ y = ((keep x y : Nat) : Int) := by unfold keep; norm_cast
      rw [this]; omega
    · have h0 : x < 2 ^ y := Nat.lt_of_lt_of_le hx (Nat.pow_le_pow_right (n := 2) (i := 64) (by omega) (by omega))
      rw [keep_low h0, Nat.div_eq_of_lt h0]; simp
  have hn : ¬ (y : Int) < 0 := by omega
  simp only [Op.shift, if_neg hn, Int.toNat_natCast, IntKind.bits]
  rw [e]
set_option maxHeartbeats 1000000 in
theorem first_any (a : Adr) (k : Nat) (w : World) (ha : a.ok) (hk : k ≤ bitsA a) :
    Calls Try.prog 49 #[.agg #[.bool a.v6, .int .u64 a.hi, .int .u64 a.lo], .int .i64 (k : Nat)] w fun e w' => e = .returned (.agg #[.bool (firstA a k).v6, .int .u64 (firstA a k).hi, .int .u64 (firstA a k).lo]) ∧ Below w.heap.size w w' := by
  have BI := Lib.hid (fun W => bits_any a W)
  have hb := bitsA_two a
  obtain ⟨r, hr⟩ : ∃ r : Nat, r = bitsA a - k := ⟨_, rfl⟩
  obtain ⟨g, hg⟩ : ∃ g : Nat, g = r - 64 := ⟨_, rfl⟩
  have R : (bitsA a : Int) - (k : Int) = (r : Int) := by omega
  have M : max ((r : Int) - 64) 0 = (g : Int) := by omega
  have E1 : (firstA a k).hi = keep a.hi g := by unfold firstA; rw [hg, hr]
  have E2 : (firstA a k).lo = keep a.lo r := by unfold firstA; rw [hr]
  have E0 : (firstA a k).v6 = a.v6 := by unfold firstA; rfl
  rw [E0, E1, E2]
  obtain ⟨ha1, ha2⟩ := ha
  have S1 := shr_keep a.lo r ha2
  have S2 := shl_keep a.lo r ha2
  have T1 := shr_keep a.hi g ha1
  have T2 := shl_keep a.hi g ha1
  generalize keep a.lo r = x1 at *
  generalize keep a.hi g = x2 at *
  generalize a.lo / 2 ^ r = y1 at *
  generalize a.hi / 2 ^ g = y2 at *
  have hB : bitsA a ≤ 1000 := by omega
  have hR : r ≤ 1000 := by omega
  have hR' : k ≤ 128 := by omega
  generalize bitsA a = B at *
  clear E0 E1 E2 hr hb hg hk
  obtain ⟨v, hi, lo⟩ := a
  simp only [] at *
  go_enter Try.func49, Try.ntmps49
  go_wp2_with fail
  refine (BI.out _).mono ?_
  rintro e w1 ⟨rfl, hb1⟩
  obtain ⟨hc, hf⟩ := old hb1
  have i1 : (w1.cell? ⟨w.heap.size, 1, none⟩).isSome = true := by rw [hc _ _ (by simp; omega)]; simp [go_sem]
  have i2 : (w1.cell? ⟨w.heap.size, 2, none⟩).isSome = true := by rw [hc _ _ (by simp; omega)]; simp [go_sem]
  go_wp2_with fail
  exact bodyPost_ret (v := .agg #[.bool v, .int .u64 x2, .int .u64 x1]) (by simp [results, Try.results49, go_sem, hc]) rfl ⟨rfl, ((((((two_low _ _ _).trans (hb1.mono (by simp; omega))).setCell (by simp) _).setCell (by simp) _).setCell (by simp) _).setCell (by simp) _).setCell (by simp) _⟩
theorem eqInAdr (d : Nat) (a b : Adr) (w : World) : (Op.equalIn (d + 2) 29 (.agg #[.bool a.v6, .int .u64 a.hi, .int .u64 a.lo]) (.agg #[.bool b.v6, .int .u64 b.hi, .int .u64 b.lo])).run Try.prog w = .ok (sameA a b) w := by
  have h4 : ∀ w : World, (isAgg 4).run Try.prog w = .ok false w := fun _ => by kernel_rfl
  have h22 : ∀ w : World, (isAgg 23).run Try.prog w = .ok false w := fun _ => by kernel_rfl
  rw [run_equalIn_struct w (d + 1) _ _ _ (by kernel_rfl) (by kernel_rfl)]
  rw [show (Try.prog.fieldsOf 29).toList = [⟨"V6", 4, 0, false, "", "", 0⟩, ⟨"Hi", 23, 1, false, "", "", 8⟩, ⟨"Lo", 23, 2, false, "", "", 16⟩] from by kernel_rfl]
  have p0 : ∀ a : Adr, (part 4 #[.bool a.v6, .int .u64 a.hi, .int .u64 a.lo] 0).run Try.prog w = .ok (.bool a.v6) w := fun a => part_one w _ _ _ _ (h4 w) rfl
  have p1 : ∀ a : Adr, (part 23 #[.bool a.v6, .int .u64 a.hi, .int .u64 a.lo] 1).run Try.prog w = .ok (.int .u64 a.hi) w := fun a => part_one w _ _ _ _ (h22 w) rfl
  have p2 : ∀ a : Adr, (part 23 #[.bool a.v6, .int .u64 a.hi, .int .u64 a.lo] 2).run Try.prog w = .ok (.int .u64 a.lo) w := fun a => part_one w _ _ _ _ (h22 w) rfl
  have q0 : (Op.equalIn (d + 1) 4 (.bool a.v6) (.bool b.v6)).run Try.prog w = .ok (a.v6 == b.v6) w := run_equalIn_bool' w d _ _ _ Try.underlying4
  have q1 : (Op.equalIn (d + 1) 23 (.int .u64 a.hi) (.int .u64 b.hi)).run Try.prog w = .ok (a.hi == b.hi) w := by rw [run_equalIn_int w d _ _ _ _ _ Try.underlying23, nat_beq]
  have q2 : (Op.equalIn (d + 1) 23 (.int .u64 a.lo) (.int .u64 b.lo)).run Try.prog w = .ok (a.lo == b.lo) w := by rw [run_equalIn_int w d _ _ _ _ _ Try.underlying23, nat_beq]
  simp only [Op.eqFields, Sem.run_bind, Sem.run_ite, p0, p1, p2, q0, q1, q2, Result.andThen_ok, sameA]
  cases (a.v6 == b.v6) <;> cases (a.hi == b.hi) <;> cases (a.lo == b.lo) <;> simp
theorem eqNet (m n : Net) (w : World) : (binOp .eql 51 (.agg #[.bool m.a.v6, .int .u64 m.a.hi, .int .u64 m.a.lo, .int .i64 m.n]) (.agg #[.bool n.a.v6, .int .u64 n.a.hi, .int .u64 n.a.lo, .int .i64 n.n])).run Try.prog w = .ok (.bool (sameN m n)) w := by
  have hA : ∀ w : World, (isAgg 29).run Try.prog w = .ok true w := fun _ => by kernel_rfl
  have hz : ∀ w : World, (sizeOf 29).run Try.prog w = .ok 3 w := fun _ => by kernel_rfl
  have h3 : ∀ w : World, (isAgg 3).run Try.prog w = .ok false w := fun _ => by kernel_rfl
  rw [run_eql_struct, run_equalIn_struct w 9999 _ _ _ (by kernel_rfl) (by kernel_rfl)]
  rw [show (Try.prog.fieldsOf 51).toList = [⟨"Addr", 29, 0, false, "", "", 0⟩, ⟨"Bits", 3, 3, false, "", "", 24⟩] from by kernel_rfl]
  have p0 : ∀ n : Net, (part 29 #[.bool n.a.v6, .int .u64 n.a.hi, .int .u64 n.a.lo, .int .i64 n.n] 0).run Try.prog w = .ok (.agg #[.bool n.a.v6, .int .u64 n.a.hi, .int .u64 n.a.lo]) w := fun n => by simp [part, hA, hz]
  have p1 : ∀ n : Net, (part 3 #[.bool n.a.v6, .int .u64 n.a.hi, .int .u64 n.a.lo, .int .i64 n.n] 3).run Try.prog w = .ok (.int .i64 n.n) w := fun n => part_one w _ _ _ _ (h3 w) rfl
  have q0 := eqInAdr 9997 m.a n.a w
  have q1 : (Op.equalIn 9999 3 (.int .i64 m.n) (.int .i64 n.n)).run Try.prog w = .ok (m.n == n.n) w := run_equalIn_int w 9998 _ _ _ _ _ Try.underlying3
  simp only [Op.eqFields, Sem.run_bind, Sem.run_ite, p0, p1, q0, q1, Result.andThen_ok, sameN]
  cases (sameA m.a n.a) <;> cases (m.n == n.n) <;> simp
theorem neqNet (m n : Net) (w : World) : (binOp .neq 51 (.agg #[.bool m.a.v6, .int .u64 m.a.hi, .int .u64 m.a.lo, .int .i64 m.n]) (.agg #[.bool n.a.v6, .int .u64 n.a.hi, .int .u64 n.a.lo, .int .i64 n.n])).run Try.prog w = .ok (.bool (!sameN m n)) w := by
  have h := eqNet m n w
  rw [run_eql_struct] at h
  rw [run_neq_struct]
  generalize (Op.equalIn 10000 51 (.agg #[.bool m.a.v6, .int .u64 m.a.hi, .int .u64 m.a.lo, .int .i64 m.n]) (.agg #[.bool n.a.v6, .int .u64 n.a.hi, .int .u64 n.a.lo, .int .i64 n.n])).run Try.prog w = r at h
  cases r with
  | ok x w' =>
    simp only [Result.andThen_ok, Result.ok.injEq, Value.bool.injEq] at h ⊢
    obtain ⟨rfl, rfl⟩ := h
    exact ⟨rfl, rfl⟩
  | halt x w' => cases h
set_option maxHeartbeats 2000000 in
theorem make_any (a : Adr) (i : Int) (w : World) (ha : a.ok) (h1 : -9223372036854775808 ≤ i) (h2 : i ≤ 9223372036854775807) :
    Calls Try.prog 39 #[.agg #[.bool a.v6, .int .u64 a.hi, .int .u64 a.lo], .int .i64 i] w fun e w' => e = .returned (.tuple #[.agg #[.bool (makeN a i).a.v6, .int .u64 (makeN a i).a.hi, .int .u64 (makeN a i).a.lo, .int .i64 (makeN a i).n], .bool (makeB a i)]) ∧ Below w.heap.size w w' := by
  have RI := Lib.hid (fun W => right_any a W ha)
  have BI := Lib.hid (fun W => bits_any a W)
  have hb := bitsA_two a
  cases hr : rightA a
  · have EB : makeB a i = false := by rw [← Bool.not_eq_true, makeB_iff]; simp [hr]; try omega
    have E : makeN a i = zero := by unfold makeN; rw [EB]; rfl
    rw [E, EB]
    clear E EB
    simp only [zero]
    rw [hr] at RI
    clear hr hb
    go_enter Try.func39, Try.ntmps39
    go_wp2_with fail
    refine (RI.out _).mono ?_
    rintro e w1 ⟨rfl, hb1⟩
    obtain ⟨hc, hf⟩ := old hb1
    go_wp2_with fail
    exact bodyPost_ret (v := .tuple #[.agg #[.bool false, .int .u64 0, .int .u64 0, .int .i64 0], .bool false]) (by simp [results, Try.results39, go_sem, hc]) rfl ⟨rfl, (((((two_low _ _ _).trans (hb1.mono (by simp; omega))).setCell (by simp) _).setCell (by simp) _).setCell (by simp) _).setCell (by simp) _⟩
  · by_cases hi : i < 0
    · have EB : makeB a i = false := by rw [← Bool.not_eq_true, makeB_iff]; simp [hr]; try omega
      have E : makeN a i = zero := by unfold makeN; rw [EB]; rfl
      rw [E, EB]
      clear E EB
      simp only [zero]
      rw [hr] at RI
      clear hr hb
      go_enter Try.func39, Try.ntmps39
      go_wp2_with fail
      refine (RI.out _).mono ?_
      rintro e w1 ⟨rfl, hb1⟩
      obtain ⟨hc, hf⟩ := old hb1
      go_wp2_with fail
      exact bodyPost_ret (v := .tuple #[.agg #[.bool false, .int .u64 0, .int .u64 0, .int .i64 0], .bool false]) (by simp [results, Try.results39, go_sem, hc]) rfl ⟨rfl, (((((two_low _ _ _).trans (hb1.mono (by simp; omega))).setCell (by simp) _).setCell (by simp) _).setCell (by simp) _).setCell (by simp) _⟩
    · by_cases hk : (bitsA a : Int) < i
      · have EB : makeB a i = false := by rw [← Bool.not_eq_true, makeB_iff]; simp [hr]; try omega
        have E : makeN a i = zero := by unfold makeN; rw [EB]; rfl
        rw [E, EB]
        clear E EB
        simp only [zero]
        rw [hr] at RI
        clear hr hb
        go_enter Try.func39, Try.ntmps39
        go_wp2_with fail
        refine (RI.out _).mono ?_
        rintro e w1 ⟨rfl, hb1⟩
        obtain ⟨hc, hf⟩ := old hb1
        go_wp2_with fail
        refine (BI.out _).mono ?_
        rintro e w2 ⟨rfl, hb2⟩
        have hb12 := low_trans hb1 hb2
        clear hc hf
        obtain ⟨hc, hf⟩ := old hb12
        go_wp2_with fail
        exact bodyPost_ret (v := .tuple #[.agg #[.bool false, .int .u64 0, .int .u64 0, .int .i64 0], .bool false]) (by simp [results, Try.results39, go_sem, hc]) rfl ⟨rfl, (((((two_low _ _ _).trans (hb12.mono (by simp; omega))).setCell (by simp) _).setCell (by simp) _).setCell (by simp) _).setCell (by simp) _⟩
      · obtain ⟨k, rfl⟩ := Int.eq_ofNat_of_zero_le (Int.not_lt.1 hi)
        have hk' : k ≤ bitsA a := by omega
        have EB : makeB a (k : Int) = true := (makeB_iff _ _).2 ⟨hr, by omega, by omega⟩
        have E : makeN a (k : Int) = ⟨firstA a k, (k : Int)⟩ := by unfold makeN; rw [EB]; rfl
        rw [E, EB]
        clear E EB
        simp only []
        have FI := Lib.hid (fun W => first_any a k W ha hk')
        rw [hr] at RI
        clear hr hi hk
        have hk9 : k ≤ 128 := by omega
        clear hb
        go_enter Try.func39, Try.ntmps39
        go_wp2_with fail
        refine (RI.out _).mono ?_
        rintro e w1 ⟨rfl, hb1⟩
        obtain ⟨hc, hf⟩ := old hb1
        go_wp2_with fail
        refine (BI.out _).mono ?_
        rintro e w2 ⟨rfl, hb2⟩
        have hb12 := low_trans hb1 hb2
        clear hc hf
        obtain ⟨hc, hf⟩ := old hb12
        go_wp2_with fail
        refine (FI.out _).mono ?_
        rintro e w3 ⟨rfl, hb3⟩
        have hb13 := low_trans hb12 hb3
        clear hc hf
        obtain ⟨hc, hf⟩ := old hb13
        go_wp2_with fail
        exact bodyPost_ret (v := .tuple #[.agg #[.bool (firstA a k).v6, .int .u64 (firstA a k).hi, .int .u64 (firstA a k).lo, .int .i64 (k : Nat)], .bool true]) (by simp [results, Try.results39, go_sem, hc]) rfl ⟨rfl, (((((two_low _ _ _).trans (hb13.mono (by simp; omega))).setCell (by simp) _).setCell (by simp) _).setCell (by simp) _).setCell (by simp) _⟩
end Go.Proofs.Ythpimcnbfhogdaa.Ci

namespace Go.Proofs.Ythpimcnbfhogdaa.Ci
set_option maxRecDepth 100000
open Go.ChangeShapes Go.WideShapes Go.ChangeAt Go.RowKit
open Dec Words V4 V6 Ad
set_option linter.unusedVariables false
end Go.Proofs.Ythpimcnbfhogdaa.Ci

namespace Go.Proofs.Ythpimcnbfhogdaa.Ci
set_option maxRecDepth 100000
open Go.ChangeShapes Go.WideShapes Go.ChangeAt Go.RowKit
open Dec Words V4 V6 Ad
set_option linter.unusedVariables false
theorem mfrozen_left {W w' : World} (h : Below W.heap.size W w') {b o : Nat} (hl : b < W.heap.size) (hc : W.frozen? ⟨b, o, none⟩ = false) : w'.frozen? ⟨b, o, none⟩ = false := ((old h).2 b o hl).trans hc
abbrev SM (a : Adr) (w : World) (w' : World) : Prop := w'.cell? ⟨w.heap.size, 0, none⟩ = some (.bool a.v6) ∧ w'.cell? ⟨w.heap.size, 1, none⟩ = some (.int .u64 a.hi) ∧ w'.cell? ⟨w.heap.size, 2, none⟩ = some (.int .u64 a.lo) ∧ w'.cell? ⟨w.heap.size + 1, 0, none⟩ = some (.bool false) ∧ w'.cell? ⟨w.heap.size + 1, 1, none⟩ = some (.int .u64 0) ∧ w'.cell? ⟨w.heap.size + 1, 2, none⟩ = some (.int .u64 0) ∧ w'.frozen? ⟨w.heap.size + 1, 0, none⟩ = false ∧ w'.frozen? ⟨w.heap.size + 1, 1, none⟩ = false ∧ w'.frozen? ⟨w.heap.size + 1, 2, none⟩ = false ∧ Stays ((w.alloc (.cells #[.bool a.v6, .int .u64 a.hi, .int .u64 a.lo] 29)).alloc (.cells #[.bool false, .int .u64 0, .int .u64 0] 29)) w'
theorem SM.of {a : Adr} {w w' : World} (h : Stays ((w.alloc (.cells #[.bool a.v6, .int .u64 a.hi, .int .u64 a.lo] 29)).alloc (.cells #[.bool false, .int .u64 0, .int .u64 0] 29)) w') : SM a w w' := ⟨cells_left h (by simp [go_sem]), cells_left h (by simp [go_sem]), cells_left h (by simp [go_sem]), cells_left h (by simp [go_sem]), cells_left h (by simp [go_sem]), cells_left h (by simp [go_sem]), mfrozen_left h (by simp) (by simp [go_sem]), mfrozen_left h (by simp) (by simp [go_sem]), mfrozen_left h (by simp) (by simp [go_sem]), h⟩
end Go.Proofs.Ythpimcnbfhogdaa.Ci

namespace Go.Proofs.Ythpimcnbfhogdaa.Ci
set_option maxRecDepth 100000
open Go.ChangeShapes Go.WideShapes Go.ChangeAt Go.RowKit
open Dec Words V4 V6 Ad
set_option linter.unusedVariables false
abbrev ST (n : Net) (w w' : World) : Prop := w'.cell? ⟨w.heap.size, 0, none⟩ = some (.bool n.a.v6) ∧ w'.cell? ⟨w.heap.size, 1, none⟩ = some (.int .u64 n.a.hi) ∧ w'.cell? ⟨w.heap.size, 2, none⟩ = some (.int .u64 n.a.lo) ∧ w'.cell? ⟨w.heap.size, 3, none⟩ = some (.int .i64 n.n) ∧ Stays (w.alloc (.cells #[.bool n.a.v6, .int .u64 n.a.hi, .int .u64 n.a.lo, .int .i64 n.n] 51)) w'
theorem ST.of {n : Net} {w w' : World} (h : Stays (w.alloc (.cells #[.bool n.a.v6, .int .u64 n.a.hi, .int .u64 n.a.lo, .int .i64 n.n] 51)) w') : ST n w w' := ⟨cells_left h (by simp [go_sem]), cells_left h (by simp [go_sem]), cells_left h (by simp [go_sem]), cells_left h (by simp [go_sem]), h⟩
end Go.Proofs.Ythpimcnbfhogdaa.Ci
