/- Small words for subnets in memory. -/
import Derived.Test.YtgnjbbohphoojaaRef06All
import Derived.Test.YtgnjbbohphoojaaMath
import Derived.Laws.Small
import Derived.Lib.MinMax
import Derived.Deep.RegionHeld3
import Derived.Outline
import Derived.Deep.RegionWith
namespace Go.Proofs.Ytgnjbbohphoojaa.Ci
set_option maxRecDepth 100000
open Go.ChangeShapes Go.WideShapes Go.ChangeAt Go.RowKit
open Dec Words V4 V6 Ad
set_option linter.unusedVariables false
theorem cells_left {W w' : World} (h : Below W.heap.size W w') {b o : Nat} {v : Value} (hc : W.cell? ⟨b, o, none⟩ = some v) : w'.cell? ⟨b, o, none⟩ = some v :=
  (h.cell (p := ⟨b, o, none⟩) (World.block_lt_of_cell? _ _ hc)).trans hc
theorem sizes {n m : Nat} (h : n + 2 ≤ m) : n < m ∧ n + 1 < m ∧ ¬ n = m ∧ ¬ n + 1 = m ∧ ¬ m = n ∧ ¬ m = n + 1 := ⟨by omega, by omega, by omega, by omega, by omega, by omega⟩
theorem low_drew {B : Nat} {a w : World} (h : Below B a w) : Below B a w.drew := low_drewN h 1
theorem frozen_left {W w' : World} (h : Below W.heap.size W w') {b o : Nat} (hl : b < W.heap.size) (hc : W.frozen? ⟨b, o, none⟩ = false) : w'.frozen? ⟨b, o, none⟩ = false := ((old h).2 b o hl).trans hc
theorem swap {P R : World → Prop} {X : World} (h : R X) (k : ∀ w5, R w5 → P w5) : P X := k X h
abbrev OF (n : Net) (p : Nat) (w' : World) : Prop := w'.cell? ⟨p, 0, none⟩ = some (.bool n.a.v6) ∧ w'.cell? ⟨p, 1, none⟩ = some (.int .u64 n.a.hi) ∧ w'.cell? ⟨p, 2, none⟩ = some (.int .u64 n.a.lo) ∧ w'.cell? ⟨p, 3, none⟩ = some (.int .i64 n.n)
theorem own_set {n : Net} {p : Nat} {wm : World} (h0 : (wm.cell? ⟨p, 0, none⟩).isSome = true) (h1 : (wm.cell? ⟨p, 1, none⟩).isSome = true) (h2 : (wm.cell? ⟨p, 2, none⟩).isSome = true) (h3 : (wm.cell? ⟨p, 3, none⟩).isSome = true) :
    OF n p ((((wm.setCell ⟨p, 0, none⟩ (.bool n.a.v6)).setCell ⟨p, 1, none⟩ (.int .u64 n.a.hi)).setCell ⟨p, 2, none⟩ (.int .u64 n.a.lo)).setCell ⟨p, 3, none⟩ (.int .i64 n.n)) := by
  refine ⟨?_, ?_, ?_, ?_⟩ <;> simp [go_sem, h0, h1, h2, h3]
theorem own_new {n : Net} {wm : World} {t : TypeId} : OF n wm.heap.size (wm.alloc (.cells #[.bool n.a.v6, .int .u64 n.a.hi, .int .u64 n.a.lo, .int .i64 n.n] t)) := by
  refine ⟨?_, ?_, ?_, ?_⟩ <;> simp [go_sem]
abbrev SF (a : Adr) (w : World) (w' : World) : Prop := w'.cell? ⟨w.heap.size, 0, none⟩ = some (.bool a.v6) ∧ w'.cell? ⟨w.heap.size, 1, none⟩ = some (.int .u64 a.hi) ∧ w'.cell? ⟨w.heap.size, 2, none⟩ = some (.int .u64 a.lo) ∧ w'.cell? ⟨w.heap.size + 1, 0, none⟩ = some (.bool false) ∧ w'.cell? ⟨w.heap.size + 1, 1, none⟩ = some (.int .u64 0) ∧ w'.cell? ⟨w.heap.size + 1, 2, none⟩ = some (.int .u64 0) ∧ w'.cell? ⟨w.heap.size + 1, 3, none⟩ = some (.int .i64 0) ∧ w'.frozen? ⟨w.heap.size + 1, 0, none⟩ = false ∧ w'.frozen? ⟨w.heap.size + 1, 1, none⟩ = false ∧ w'.frozen? ⟨w.heap.size + 1, 2, none⟩ = false ∧ w'.frozen? ⟨w.heap.size + 1, 3, none⟩ = false ∧ Stays ((w.alloc (.cells #[.bool a.v6, .int .u64 a.hi, .int .u64 a.lo] 31)).alloc (.cells #[.bool false, .int .u64 0, .int .u64 0, .int .i64 0] 43)) w'
end Go.Proofs.Ytgnjbbohphoojaa.Ci
/- Contracts of package cidr: what is made, masked, written. -/
namespace Go.Proofs.Ytgnjbbohphoojaa.Ci
set_option maxRecDepth 100000
open Go.ChangeShapes Go.WideShapes Go.ChangeAt Go.RowKit
open Dec Words V4 V6 Ad
set_option linter.unusedVariables false
theorem shr_keep (x y : Nat) (hx : x < 18446744073709551616) : Op.shift .shr .u64 (x : Int) .i64 (y : Int) = pure (.int .u64 ((x / 2 ^ y : Nat) : Int)) := by
  have hp : (0 : Int) ≤ 2 ^ min y 64 := Int.pow_nonneg (by decide)
  have e : (x : Int).fdiv (2 ^ min y 64) = ((x / 2 ^ y : Nat) : Int) := by
    rw [Int.fdiv_eq_ediv_of_nonneg _ hp]
    by_cases h : y ≤ 64
    · rw [Nat.min_eq_left h]; norm_cast
    · rw [Nat.min_eq_right (by omega), Nat.div_eq_of_lt (Nat.lt_of_lt_of_le hx (Nat.pow_le_pow_right (n := 2) (i := 64) (by omega) (by omega)))]
      have : ((2 : Int) ^ 64) = 18446744073709551616 := by decide
      rw [this]; omega
  have hn : ¬ (y : Int) < 0 := by omega
  simp only [Op.shift, if_neg hn, Int.toNat_natCast, IntKind.bits]
  rw [e]
theorem shl_keep (x y : Nat) (hx : x < 18446744073709551616) : Op.shift .shl .u64 ((x / 2 ^ y : Nat) : Int) .i64 (y : Int) = pure (.int .u64 ((keep x y : Nat) : Int)) := by
  have hk := keep_le x y
  have e : IntKind.u64.wrap (((x / 2 ^ y : Nat) : Int) * 2 ^ min y 64) = ((keep x y : Nat) : Int) := by
    rw [IntKind.wrap_u64]
    by_cases h : y ≤ 64
    · rw [Nat.min_eq_left h]
      have : ((x / 2 ^ y : Nat) : Int) * 2 ^ y = ((keep x y : Nat) : Int) := by unfold keep; norm_cast
      rw [this]; omega
    · have h0 : x < 2 ^ y := Nat.lt_of_lt_of_le hx (Nat.pow_le_pow_right (n := 2) (i := 64) (by omega) (by omega))
      rw [keep_low h0, Nat.div_eq_of_lt h0]; simp
  have hn : ¬ (y : Int) < 0 := by omega
  simp only [Op.shift, if_neg hn, Int.toNat_natCast, IntKind.bits]
  rw [e]
set_option maxHeartbeats 1000000 in
theorem first_any (a : Adr) (k : Nat) (w : World) (ha : a.ok) (hk : k ≤ bitsA a) :
    Calls Try.prog 75 #[.agg #[.bool a.v6, .int .u64 a.hi, .int .u64 a.lo], .int .i64 (k : Nat)] w fun e w' => e = .returned (.agg #[.bool (firstA a k).v6, .int .u64 (firstA a k).hi, .int .u64 (firstA a k).lo]) ∧ Below w.heap.size w w' := by
  have BI := Lib.hid (fun W => bits_any a W)
  have hb := bitsA_two a
  obtain ⟨r, hr⟩ : ∃ r : Nat, r = bitsA a - k := ⟨_, rfl⟩
  obtain ⟨g, hg⟩ : ∃ g : Nat, g = r - 64 := ⟨_, rfl⟩
  have R : (bitsA a : Int) - (k : Int) = (r : Int) := by omega
  have M : max ((r : Int) - 64) 0 = (g : Int) := by omega
  have E1 : (firstA a k).hi = keep a.hi g := by unfold firstA; rw [hg, hr]
  have E2 : (firstA a k).lo = keep a.lo r := by unfold firstA; rw [hr]
  have E0 : (firstA a k).v6 = a.v6 := by unfold firstA; rfl
  rw [E0, E1, E2]
  obtain ⟨ha1, ha2⟩ := ha
  have S1 := shr_keep a.lo r ha2
  have S2 := shl_keep a.lo r ha2
  have T1 := shr_keep a.hi g ha1
  have T2 := shl_keep a.hi g ha1
  generalize keep a.lo r = x1 at *
  generalize keep a.hi g = x2 at *
  generalize a.lo / 2 ^ r = y1 at *
  generalize a.hi / 2 ^ g = y2 at *
  have hB : bitsA a ≤ 1000 := by omega
  have hR : r ≤ 1000 := by omega
  have hR' : k ≤ 128 := by omega
  generalize bitsA a = B at *
  clear E0 E1 E2 hr hb hg hk
  obtain ⟨v, hi, lo⟩ := a
  simp only [] at *
  go_enter Try.func75, Try.ntmps75
  go_wp2_with fail
  refine (BI.out _).mono ?_
  rintro e w1 ⟨rfl, hb1⟩
  obtain ⟨hc, hf⟩ := old hb1
  have i1 : (w1.cell? ⟨w.heap.size, 1, none⟩).isSome = true := by rw [hc _ _ (by simp; omega)]; simp [go_sem]
  have i2 : (w1.cell? ⟨w.heap.size, 2, none⟩).isSome = true := by rw [hc _ _ (by simp; omega)]; simp [go_sem]
  go_wp2_with fail
  exact bodyPost_ret (v := .agg #[.bool v, .int .u64 x2, .int .u64 x1]) (by simp [results, Try.results75, go_sem, hc]) rfl ⟨rfl, ((((((two_low _ _ _).trans (hb1.mono (by simp; omega))).setCell (by simp) _).setCell (by simp) _).setCell (by simp) _).setCell (by simp) _).setCell (by simp) _⟩
theorem eqInAdr (d : Nat) (a b : Adr) (w : World) : (Op.equalIn (d + 2) 31 (.agg #[.bool a.v6, .int .u64 a.hi, .int .u64 a.lo]) (.agg #[.bool b.v6, .int .u64 b.hi, .int .u64 b.lo])).run Try.prog w = .ok (sameA a b) w := by
  have h4 : ∀ w : World, (isAgg 4).run Try.prog w = .ok false w := fun _ => by kernel_rfl
  have h22 : ∀ w : World, (isAgg 29).run Try.prog w = .ok false w := fun _ => by kernel_rfl
  rw [run_equalIn_struct w (d + 1) _ _ _ (by kernel_rfl) (by kernel_rfl)]
  rw [show (Try.prog.fieldsOf 31).toList = [⟨"V6", 4, 0, false, "", "", 0⟩, ⟨"Hi", 29, 1, false, "", "", 8⟩, ⟨"Lo", 29, 2, false, "", "", 16⟩] from by kernel_rfl]
  have p0 : ∀ a : Adr, (part 4 #[.bool a.v6, .int .u64 a.hi, .int .u64 a.lo] 0).run Try.prog w = .ok (.bool a.v6) w := fun a => part_one w _ _ _ _ (h4 w) rfl
  have p1 : ∀ a : Adr, (part 29 #[.bool a.v6, .int .u64 a.hi, .int .u64 a.lo] 1).run Try.prog w = .ok (.int .u64 a.hi) w := fun a => part_one w _ _ _ _ (h22 w) rfl
  have p2 : ∀ a : Adr, (part 29 #[.bool a.v6, .int .u64 a.hi, .int .u64 a.lo] 2).run Try.prog w = .ok (.int .u64 a.lo) w := fun a => part_one w _ _ _ _ (h22 w) rfl
  have q0 : (Op.equalIn (d + 1) 4 (.bool a.v6) (.bool b.v6)).run Try.prog w = .ok (a.v6 == b.v6) w := run_equalIn_bool' w d _ _ _ Try.underlying4
  have q1 : (Op.equalIn (d + 1) 29 (.int .u64 a.hi) (.int .u64 b.hi)).run Try.prog w = .ok (a.hi == b.hi) w := by rw [run_equalIn_int w d _ _ _ _ _ Try.underlying29, nat_beq]
  have q2 : (Op.equalIn (d + 1) 29 (.int .u64 a.lo) (.int .u64 b.lo)).run Try.prog w = .ok (a.lo == b.lo) w := by rw [run_equalIn_int w d _ _ _ _ _ Try.underlying29, nat_beq]
  simp only [Op.eqFields, Sem.run_bind, Sem.run_ite, p0, p1, p2, q0, q1, q2, Result.andThen_ok, sameA]
  cases (a.v6 == b.v6) <;> cases (a.hi == b.hi) <;> cases (a.lo == b.lo) <;> simp
theorem eqNet (m n : Net) (w : World) : (binOp .eql 43 (.agg #[.bool m.a.v6, .int .u64 m.a.hi, .int .u64 m.a.lo, .int .i64 m.n]) (.agg #[.bool n.a.v6, .int .u64 n.a.hi, .int .u64 n.a.lo, .int .i64 n.n])).run Try.prog w = .ok (.bool (sameN m n)) w := by
  have hA : ∀ w : World, (isAgg 31).run Try.prog w = .ok true w := fun _ => by kernel_rfl
  have hz : ∀ w : World, (sizeOf 31).run Try.prog w = .ok 3 w := fun _ => by kernel_rfl
  have h3 : ∀ w : World, (isAgg 3).run Try.prog w = .ok false w := fun _ => by kernel_rfl
  rw [run_eql_struct, run_equalIn_struct w 9999 _ _ _ (by kernel_rfl) (by kernel_rfl)]
  rw [show (Try.prog.fieldsOf 43).toList = [⟨"Addr", 31, 0, false, "", "", 0⟩, ⟨"Bits", 3, 3, false, "", "", 24⟩] from by kernel_rfl]
  have p0 : ∀ n : Net, (part 31 #[.bool n.a.v6, .int .u64 n.a.hi, .int .u64 n.a.lo, .int .i64 n.n] 0).run Try.prog w = .ok (.agg #[.bool n.a.v6, .int .u64 n.a.hi, .int .u64 n.a.lo]) w := fun n => by simp [part, hA, hz]
  have p1 : ∀ n : Net, (part 3 #[.bool n.a.v6, .int .u64 n.a.hi, .int .u64 n.a.lo, .int .i64 n.n] 3).run Try.prog w = .ok (.int .i64 n.n) w := fun n => part_one w _ _ _ _ (h3 w) rfl
  have q0 := eqInAdr 9997 m.a n.a w
  have q1 : (Op.equalIn 9999 3 (.int .i64 m.n) (.int .i64 n.n)).run Try.prog w = .ok (m.n == n.n) w := run_equalIn_int w 9998 _ _ _ _ _ Try.underlying3
  simp only [Op.eqFields, Sem.run_bind, Sem.run_ite, p0, p1, q0, q1, Result.andThen_ok, sameN]
  cases (sameA m.a n.a) <;> cases (m.n == n.n) <;> simp
theorem neqNet (m n : Net) (w : World) : (binOp .neq 43 (.agg #[.bool m.a.v6, .int .u64 m.a.hi, .int .u64 m.a.lo, .int .i64 m.n]) (.agg #[.bool n.a.v6, .int .u64 n.a.hi, .int .u64 n.a.lo, .int .i64 n.n])).run Try.prog w = .ok (.bool (!sameN m n)) w := by
  have h := eqNet m n w
  rw [run_eql_struct] at h
  rw [run_neq_struct]
  generalize (Op.equalIn 10000 43 (.agg #[.bool m.a.v6, .int .u64 m.a.hi, .int .u64 m.a.lo, .int .i64 m.n]) (.agg #[.bool n.a.v6, .int .u64 n.a.hi, .int .u64 n.a.lo, .int .i64 n.n])).run Try.prog w = r at h
  cases r with
  | ok x w' =>
    simp only [Result.andThen_ok, Result.ok.injEq, Value.bool.injEq] at h ⊢
    obtain ⟨rfl, rfl⟩ := h
    exact ⟨rfl, rfl⟩
  | halt x w' => cases h
set_option maxHeartbeats 2000000 in
theorem make_any (a : Adr) (i : Int) (w : World) (ha : a.ok) (h1 : -9223372036854775808 ≤ i) (h2 : i ≤ 9223372036854775807) :
    Calls Try.prog 65 #[.agg #[.bool a.v6, .int .u64 a.hi, .int .u64 a.lo], .int .i64 i] w fun e w' => e = .returned (.tuple #[.agg #[.bool (makeN a i).a.v6, .int .u64 (makeN a i).a.hi, .int .u64 (makeN a i).a.lo, .int .i64 (makeN a i).n], .bool (makeB a i)]) ∧ Below w.heap.size w w' := by
  have RI := Lib.hid (fun W => right_any a W ha)
  have BI := Lib.hid (fun W => bits_any a W)
  have hb := bitsA_two a
  cases hr : rightA a
  · have EB : makeB a i = false := by rw [← Bool.not_eq_true, makeB_iff]; simp [hr]; try omega
    have E : makeN a i = zero := by unfold makeN; rw [EB]; rfl
    rw [E, EB]
    clear E EB
    simp only [zero]
    rw [hr] at RI
    clear hr hb
    go_enter Try.func65, Try.ntmps65
    go_wp2_with fail
    refine (RI.out _).mono ?_
    rintro e w1 ⟨rfl, hb1⟩
    obtain ⟨hc, hf⟩ := old hb1
    go_wp2_with fail
    exact bodyPost_ret (v := .tuple #[.agg #[.bool false, .int .u64 0, .int .u64 0, .int .i64 0], .bool false]) (by simp [results, Try.results65, go_sem, hc]) rfl ⟨rfl, (((((two_low _ _ _).trans (hb1.mono (by simp; omega))).setCell (by simp) _).setCell (by simp) _).setCell (by simp) _).setCell (by simp) _⟩
  · by_cases hi : i < 0
    · have EB : makeB a i = false := by rw [← Bool.not_eq_true, makeB_iff]; simp [hr]; try omega
      have E : makeN a i = zero := by unfold makeN; rw [EB]; rfl
      rw [E, EB]
      clear E EB
      simp only [zero]
      rw [hr] at RI
      clear hr hb
      go_enter Try.func65, Try.ntmps65
      go_wp2_with fail
      refine (RI.out _).mono ?_
      rintro e w1 ⟨rfl, hb1⟩
      obtain ⟨hc, hf⟩ := old hb1
      go_wp2_with fail
      exact bodyPost_ret (v := .tuple #[.agg #[.bool false, .int .u64 0, .int .u64 0, .int .i64 0], .bool false]) (by simp [results, Try.results65, go_sem, hc]) rfl ⟨rfl, (((((two_low _ _ _).trans (hb1.mono (by simp; omega))).setCell (by simp) _).setCell (by simp) _).setCell (by simp) _).setCell (by simp) _⟩
    · by_cases hk : (bitsA a : Int) < i
      · have EB : makeB a i = false := by rw [← Bool.not_eq_true, makeB_iff]; simp [hr]; try omega
        have E : makeN a i = zero := by unfold makeN; rw [EB]; rfl
        rw [E, EB]
        clear E EB
        simp only [zero]
        rw [hr] at RI
        clear hr hb
        go_enter Try.func65, Try.ntmps65
        go_wp2_with fail
        refine (RI.out _).mono ?_
        rintro e w1 ⟨rfl, hb1⟩
        obtain ⟨hc, hf⟩ := old hb1
        go_wp2_with fail
        refine (BI.out _).mono ?_
        rintro e w2 ⟨rfl, hb2⟩
        have hb12 := low_trans hb1 hb2
        clear hc hf
        obtain ⟨hc, hf⟩ := old hb12
        go_wp2_with fail
        exact bodyPost_ret (v := .tuple #[.agg #[.bool false, .int .u64 0, .int .u64 0, .int .i64 0], .bool false]) (by simp [results, Try.results65, go_sem, hc]) rfl ⟨rfl, (((((two_low _ _ _).trans (hb12.mono (by simp; omega))).setCell (by simp) _).setCell (by simp) _).setCell (by simp) _).setCell (by simp) _⟩
      · obtain ⟨k, rfl⟩ := Int.eq_ofNat_of_zero_le (Int.not_lt.1 hi)
        have hk' : k ≤ bitsA a := by omega
        have EB : makeB a (k : Int) = true := (makeB_iff _ _).2 ⟨hr, by omega, by omega⟩
        have E : makeN a (k : Int) = ⟨firstA a k, (k : Int)⟩ := by unfold makeN; rw [EB]; rfl
        rw [E, EB]
        clear E EB
        simp only []
        have FI := Lib.hid (fun W => first_any a k W ha hk')
        rw [hr] at RI
        clear hr hi hk
        have hk9 : k ≤ 128 := by omega
        clear hb
        go_enter Try.func65, Try.ntmps65
        go_wp2_with fail
        refine (RI.out _).mono ?_
        rintro e w1 ⟨rfl, hb1⟩
        obtain ⟨hc, hf⟩ := old hb1
        go_wp2_with fail
        refine (BI.out _).mono ?_
        rintro e w2 ⟨rfl, hb2⟩
        have hb12 := low_trans hb1 hb2
        clear hc hf
        obtain ⟨hc, hf⟩ := old hb12
        go_wp2_with fail
        refine (FI.out _).mono ?_
        rintro e w3 ⟨rfl, hb3⟩
        have hb13 := low_trans hb12 hb3
        clear hc hf
        obtain ⟨hc, hf⟩ := old hb13
        go_wp2_with fail
        exact bodyPost_ret (v := .tuple #[.agg #[.bool (firstA a k).v6, .int .u64 (firstA a k).hi, .int .u64 (firstA a k).lo, .int .i64 (k : Nat)], .bool true]) (by simp [results, Try.results65, go_sem, hc]) rfl ⟨rfl, (((((two_low _ _ _).trans (hb13.mono (by simp; omega))).setCell (by simp) _).setCell (by simp) _).setCell (by simp) _).setCell (by simp) _⟩
end Go.Proofs.Ytgnjbbohphoojaa.Ci

namespace Go.Proofs.Ytgnjbbohphoojaa.Ci
set_option maxRecDepth 100000
open Go.ChangeShapes Go.WideShapes Go.ChangeAt Go.RowKit
open Dec Words V4 V6 Ad
set_option linter.unusedVariables false
set_option maxHeartbeats 1000000 in
theorem has_any (n : Net) (a : Adr) (w : World) (hn : n.ok) (ha : a.ok) :
    Calls Try.prog 61 #[.agg #[.bool n.a.v6, .int .u64 n.a.hi, .int .u64 n.a.lo, .int .i64 n.n], .agg #[.bool a.v6, .int .u64 a.hi, .int .u64 a.lo]] w fun e w' => e = .returned (.bool (hasN n a)) ∧ Below w.heap.size w w' := by
  obtain ⟨hn0, hn1, hn2⟩ := hn
  have MK := Lib.hid (fun W => make_any a n.n W ha hn1 hn2)
  have EQ := fun W => eqNet (makeN a n.n) n W
  cases hm : makeB a n.n
  · have E : Hid (hasN n a = false) := Lib.hid (by unfold hasN; rw [hm]; rfl)
    rw [hm] at MK
    clear hm
    go_enter Try.func61, Try.ntmps61
    go_wp2_with fail
    refine (MK.out _).mono ?_
    rintro e w1 ⟨rfl, hb1⟩
    obtain ⟨hc, hf⟩ := old hb1
    obtain ⟨z0, z1, z2, z3, z4, z5⟩ := sizes (show w.heap.size + 2 ≤ w1.heap.size by have := hb1.size; simp at this; omega)
    go_wp2_with fail
    go_ret
    exact ⟨ret_b E.out.symm, ((two_low _ _ _).trans (hb1.mono (by simp; omega))).alloc (by omega) _⟩
  · have E : Hid (hasN n a = sameN (makeN a n.n) n) := Lib.hid (by unfold hasN; rw [hm]; rfl)
    rw [hm] at MK
    clear hm
    go_enter Try.func61, Try.ntmps61
    go_wp2_with fail
    refine (MK.out _).mono ?_
    rintro e w1 ⟨rfl, hb1⟩
    obtain ⟨hc, hf⟩ := old hb1
    obtain ⟨z0, z1, z2, z3, z4, z5⟩ := sizes (show w.heap.size + 2 ≤ w1.heap.size by have := hb1.size; simp at this; omega)
    go_wp2_with fail
    go_ret
    exact ⟨ret_b E.out.symm, ((two_low _ _ _).trans (hb1.mono (by simp; omega))).alloc (by omega) _⟩
end Go.Proofs.Ytgnjbbohphoojaa.Ci

namespace Go.Proofs.Ytgnjbbohphoojaa.Ci
set_option maxRecDepth 100000
open Go.ChangeShapes Go.WideShapes Go.ChangeAt Go.RowKit
open Dec Words V4 V6 Ad
set_option linter.unusedVariables false
theorem mfrozen_left {W w' : World} (h : Below W.heap.size W w') {b o : Nat} (hl : b < W.heap.size) (hc : W.frozen? ⟨b, o, none⟩ = false) : w'.frozen? ⟨b, o, none⟩ = false := ((old h).2 b o hl).trans hc
abbrev SM (a : Adr) (w : World) (w' : World) : Prop := w'.cell? ⟨w.heap.size, 0, none⟩ = some (.bool a.v6) ∧ w'.cell? ⟨w.heap.size, 1, none⟩ = some (.int .u64 a.hi) ∧ w'.cell? ⟨w.heap.size, 2, none⟩ = some (.int .u64 a.lo) ∧ w'.cell? ⟨w.heap.size + 1, 0, none⟩ = some (.bool false) ∧ w'.cell? ⟨w.heap.size + 1, 1, none⟩ = some (.int .u64 0) ∧ w'.cell? ⟨w.heap.size + 1, 2, none⟩ = some (.int .u64 0) ∧ w'.frozen? ⟨w.heap.size + 1, 0, none⟩ = false ∧ w'.frozen? ⟨w.heap.size + 1, 1, none⟩ = false ∧ w'.frozen? ⟨w.heap.size + 1, 2, none⟩ = false ∧ Stays ((w.alloc (.cells #[.bool a.v6, .int .u64 a.hi, .int .u64 a.lo] 31)).alloc (.cells #[.bool false, .int .u64 0, .int .u64 0] 31)) w'
theorem SM.of {a : Adr} {w w' : World} (h : Stays ((w.alloc (.cells #[.bool a.v6, .int .u64 a.hi, .int .u64 a.lo] 31)).alloc (.cells #[.bool false, .int .u64 0, .int .u64 0] 31)) w') : SM a w w' := ⟨cells_left h (by simp [go_sem]), cells_left h (by simp [go_sem]), cells_left h (by simp [go_sem]), cells_left h (by simp [go_sem]), cells_left h (by simp [go_sem]), cells_left h (by simp [go_sem]), mfrozen_left h (by simp) (by simp [go_sem]), mfrozen_left h (by simp) (by simp [go_sem]), mfrozen_left h (by simp) (by simp [go_sem]), h⟩
end Go.Proofs.Ytgnjbbohphoojaa.Ci

namespace Go.Proofs.Ytgnjbbohphoojaa.Ci
set_option maxRecDepth 100000
open Go.ChangeShapes Go.WideShapes Go.ChangeAt Go.RowKit
open Dec Words V4 V6 Ad
set_option linter.unusedVariables false
abbrev ST (n : Net) (w w' : World) : Prop := w'.cell? ⟨w.heap.size, 0, none⟩ = some (.bool n.a.v6) ∧ w'.cell? ⟨w.heap.size, 1, none⟩ = some (.int .u64 n.a.hi) ∧ w'.cell? ⟨w.heap.size, 2, none⟩ = some (.int .u64 n.a.lo) ∧ w'.cell? ⟨w.heap.size, 3, none⟩ = some (.int .i64 n.n) ∧ Stays (w.alloc (.cells #[.bool n.a.v6, .int .u64 n.a.hi, .int .u64 n.a.lo, .int .i64 n.n] 43)) w'
theorem ST.of {n : Net} {w w' : World} (h : Stays (w.alloc (.cells #[.bool n.a.v6, .int .u64 n.a.hi, .int .u64 n.a.lo, .int .i64 n.n] 43)) w') : ST n w w' := ⟨cells_left h (by simp [go_sem]), cells_left h (by simp [go_sem]), cells_left h (by simp [go_sem]), cells_left h (by simp [go_sem]), h⟩
end Go.Proofs.Ytgnjbbohphoojaa.Ci
/- Contract of package cidr: Full, over Make. -/
namespace Go.Proofs.Ytgnjbbohphoojaa.Ci
set_option maxRecDepth 100000
open Go.ChangeShapes Go.WideShapes Go.ChangeAt Go.RowKit
open Dec Words V4 V6 Ad
set_option linter.unusedVariables false
end Go.Proofs.Ytgnjbbohphoojaa.Ci
/- Contracts of package cidr. -/
namespace Go.Proofs.Ytgnjbbohphoojaa.Ci
set_option maxRecDepth 100000
open Go.ChangeShapes Go.WideShapes Go.ChangeAt Go.RowKit
open Dec Words V4 V6 Ad
set_option linter.unusedVariables false
end Go.Proofs.Ytgnjbbohphoojaa.Ci
namespace Go.Proofs.Ytgnjbbohphoojaa.Ci
set_option maxRecDepth 100000
open Go.ChangeShapes Go.WideShapes Go.ChangeAt Go.RowKit
open Dec Words V4 V6 Ad
set_option linter.unusedVariables false
theorem cut_pre : ∀ l : List UInt8, cut 47 l = pre l :: (if slash l then cut 47 (post l) else [])
  | [] => by simp [cut, pre, slash]
  | b :: l => by
    by_cases e : b = 47
    · subst e
      rw [cut_hit]
      have h1 : pre (47 :: l) = [] := by simp [pre]
      have h2 : slash (47 :: l) = true := by simp [slash]
      have h3 : post (47 :: l) = l := by simp [post]
      rw [h1, h2, h3]; simp
    · obtain ⟨x, r, e1, e2⟩ := cut_off e l
      have ih := cut_pre l
      rw [e1] at ih
      have h1 : pre (b :: l) = b :: pre l := by unfold pre; rw [List.takeWhile_cons, if_pos (by simpa using e)]
      have h2 : slash (b :: l) = slash l := by unfold slash; rw [List.contains_cons]; simp [show (47 : UInt8) ≠ b from fun h => e h.symm]
      have h3 : post (b :: l) = post l := by unfold post; rw [List.dropWhile_cons, if_pos (by simpa using e)]
      rw [e2, h1, h2, h3]
      injection ih with i1 i2
      rw [i1, i2]
theorem pre_le (l : List UInt8) : (pre l).length ≤ l.length := by unfold pre; exact (List.takeWhile_sublist _).length_le
theorem post_le (l : List UInt8) : (post l).length ≤ l.length := by
  unfold post
  rw [List.length_drop]
  have := (List.dropWhile_sublist (l := l) (· != 47)).length_le
  omega
theorem cut_none_slash {l : List UInt8} (h : slash l = false) : cut 47 l = [pre l] := by rw [cut_pre, h]; rfl
theorem cut_one_slash {l : List UInt8} (h : slash l = true) (h2 : slash (post l) = false) : cut 47 l = [pre l, post l] := by
  rw [cut_pre, h, if_pos rfl, cut_pre (post l), h2]
  have h47 : (47 : UInt8) ∉ post l := by unfold slash at h2; simpa using h2
  rw [(pre_none h47).1]; rfl
theorem cut_more_slash {l : List UInt8} (h : slash l = true) (h2 : slash (post l) = true) : 2 < (cut 47 l).length := by
  rw [cut_pre, h, if_pos rfl, cut_pre (post l), h2, if_pos rfl, List.length_cons, List.length_cons]
  have := List.length_pos_iff.2 (cut_ne 47 (post (post l)))
  omega
theorem parB_slash {l : List UInt8} (h : slash l = true) (most : Int) : parB l most = false := parB_bad (c := 47) most (by unfold slash at h; simpa using h) (by decide)
def markN (hi lo : Nat) (i : Int) : Net := if 96 ≤ i then makeN (v6A hi lo) (i - 96) else makeN (firstA ⟨true, hi, lo⟩ i.toNat) i
def markB (hi lo : Nat) (i : Int) : Bool := if 96 ≤ i then makeB (v6A hi lo) (i - 96) else makeB (firstA ⟨true, hi, lo⟩ i.toNat) i
def ParseN (l : List UInt8) (w : World) (e : Ending) (w' : World) : Prop := e = .returned (.tuple #[.agg #[.bool (parseN l).a.v6, .int .u64 (parseN l).a.hi, .int .u64 (parseN l).a.lo, .int .i64 (parseN l).n], .bool (okN l)]) ∧ Below w.heap.size w w'
theorem parseN_mk {l : List UInt8} {w w' : World} {e : Ending} {n : Net} {b : Bool} (hn : parseN l = n) (hb : okN l = b) (he : e = .returned (.tuple #[.agg #[.bool n.a.v6, .int .u64 n.a.hi, .int .u64 n.a.lo, .int .i64 n.n], .bool b])) (h : Below w.heap.size w w') : ParseN l w e w' := by
  subst hn hb; exact ⟨he, h⟩
theorem okN_noA {l : List UInt8} (h : okA (pre l) = false) : okN l = false := by unfold okN; rw [h]; rfl
theorem okN_noB {l : List UInt8} (h : slash l = true) (h2 : parB (post l) 128 = false) : okN l = false := by unfold okN; rw [h, h2]; simp
theorem okN_full {l : List UInt8} (h : okA (pre l) = true) (h2 : slash l = false) : okN l = true ∧ parseN l = fullN (parseA (pre l)) := by
  have e : okN l = true := by unfold okN; rw [h, h2]; rfl
  refine ⟨e, ?_⟩
  unfold parseN; rw [e, h2]; rfl
theorem okN_mark {l : List UInt8} (h : slash l = true) (h2 : parB (post l) 128 = true) (h3 : marked (pre l) = true) : okN l = true ∧ parseN l = markN (hi6 (pre l)) (lo6 (pre l)) (bitsT l) ∧ markB (hi6 (pre l)) (lo6 (pre l)) (bitsT l) = true := by
  have hb := bitsT_bd l
  have h1 : okA (pre l) = true := by unfold okA; rw [(marked_is h3).1]; simp
  have e : okN l = true := (okN_iff l).2 ⟨h1, fun _ => ⟨h2, fun hm => by rw [h3] at hm; cases hm⟩⟩
  have m := marked_is h3
  refine ⟨e, ?_, ?_⟩
  · unfold parseN markN
    rw [if_pos e, if_pos h, if_pos h3]
    by_cases h96 : bitsT l < 96
    · rw [if_pos h96, if_neg (by omega), (marked_low _ _ hb.1 h96).2]
    · rw [if_neg h96, if_pos (by omega), m.2.2.2.1]
  · unfold markB
    by_cases h96 : bitsT l < 96
    · rw [if_neg (by omega)]; exact (marked_low _ _ hb.1 h96).1
    · rw [if_pos (by omega), ← m.2.2.2.1]; exact marked_make h3 (by omega) hb.2
theorem okN_make {l : List UInt8} (h1 : okA (pre l) = true) (h : slash l = true) (h2 : parB (post l) 128 = true) (h3 : marked (pre l) = false) : okN l = makeB (parseA (pre l)) (bitsT l) ∧ parseN l = makeN (parseA (pre l)) (bitsT l) := by
  have e : okN l = makeB (parseA (pre l)) (bitsT l) := by unfold okN; rw [h1, h, h2, h3]; simp
  refine ⟨e, ?_⟩
  cases hm : makeB (parseA (pre l)) (bitsT l)
  · rw [parseN_no (e.trans hm)]; unfold makeN; rw [hm]; rfl
  · unfold parseN; rw [e, hm, h, h3]; rfl
theorem Txts.cons {w : World} {v : Value} {x : List UInt8} {ls : List (List UInt8)} (h : Txts w v (x :: ls)) : ∃ b o c, v = .slice (some ⟨b, o, none⟩) (x :: ls).length c ∧ b < w.heap.size ∧ ls.length + 1 ≤ c ∧ w.cell? ⟨b, o, none⟩ = some (.string ⟨x.toArray⟩) ∧ ∀ y, ls[0]? = some y → w.cell? ⟨b, o + 1, none⟩ = some (.string ⟨y.toArray⟩) := by
  obtain ⟨A, c, rfl, hcap, h⟩ := h
  obtain ⟨b, o, rfl, hb, hc⟩ := h (by simp)
  refine ⟨b, o, c, rfl, hb, by simpa using hcap, by have := hc 0 (by simp); simpa only [Nat.add_zero, List.getElem_cons_zero] using this, fun y hy => ?_⟩
  obtain ⟨hlt, he⟩ := List.getElem?_eq_some_iff.1 hy
  rw [hc 1 (by simp; omega)]
  simp [he]
end Go.Proofs.Ytgnjbbohphoojaa.Ci
