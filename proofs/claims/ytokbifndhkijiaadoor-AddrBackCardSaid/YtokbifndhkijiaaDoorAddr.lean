/- Contracts of package addr: what needs no text. -/
import Derived.Test.YtokbifndhkijiaaDoorAddrMath
import Derived.Test.YtokbifndhkijiaaDoorKit
import Derived.Laws.StructEq
import Derived.Laws.BitsAllLaws
import Derived.Deep.RegionHeld3
import Derived.Outline
namespace Go.Proofs.YtokbifndhkijiaaDoor.Ad
set_option maxRecDepth 100000
open Go.ChangeShapes Go.WideShapes Go.ChangeAt Go.RowKit
set_option linter.unusedVariables false
theorem part_one {P : Program} (w : World) (t : TypeId) (cs : Array Value) (o : Nat) (v : Value) (h : (isAgg t).run P w = .ok false w) (hv : cs[o]? = some v) : (part t cs o).run P w = .ok v w := by
  simp [part, h, hv]
theorem nat_beq (m n : Nat) : ((m : Int) == (n : Int)) = (m == n) := by rw [Bool.eq_iff_iff, beq_iff_eq, beq_iff_eq]; omega
theorem eqAdr (a b : Adr) (w : World) : (binOp .eql 24 (.agg #[.bool a.v6, .int .u64 a.hi, .int .u64 a.lo]) (.agg #[.bool b.v6, .int .u64 b.hi, .int .u64 b.lo])).run Tryd.prog w = .ok (.bool (sameA a b)) w := by
  have h4 : ∀ w : World, (isAgg 4).run Tryd.prog w = .ok false w := fun _ => by kernel_rfl
  have h22 : ∀ w : World, (isAgg 22).run Tryd.prog w = .ok false w := fun _ => by kernel_rfl
  rw [run_eql_struct, run_equalIn_struct w 9999 _ _ _ (by kernel_rfl) (by kernel_rfl)]
  rw [show (Tryd.prog.fieldsOf 24).toList = [⟨"V6", 4, 0, false, "", "", 0⟩, ⟨"Hi", 22, 1, false, "", "", 8⟩, ⟨"Lo", 22, 2, false, "", "", 16⟩] from by kernel_rfl]
  have p0 : ∀ a : Adr, (part 4 #[.bool a.v6, .int .u64 a.hi, .int .u64 a.lo] 0).run Tryd.prog w = .ok (.bool a.v6) w := fun a => part_one w _ _ _ _ (h4 w) rfl
  have p1 : ∀ a : Adr, (part 22 #[.bool a.v6, .int .u64 a.hi, .int .u64 a.lo] 1).run Tryd.prog w = .ok (.int .u64 a.hi) w := fun a => part_one w _ _ _ _ (h22 w) rfl
  have p2 : ∀ a : Adr, (part 22 #[.bool a.v6, .int .u64 a.hi, .int .u64 a.lo] 2).run Tryd.prog w = .ok (.int .u64 a.lo) w := fun a => part_one w _ _ _ _ (h22 w) rfl
  have q0 : (Op.equalIn 9999 4 (.bool a.v6) (.bool b.v6)).run Tryd.prog w = .ok (a.v6 == b.v6) w := run_equalIn_bool' w 9998 _ _ _ Tryd.underlying4
  have q1 : (Op.equalIn 9999 22 (.int .u64 a.hi) (.int .u64 b.hi)).run Tryd.prog w = .ok (a.hi == b.hi) w := by rw [run_equalIn_int w 9998 _ _ _ _ _ Tryd.underlying22, nat_beq]
  have q2 : (Op.equalIn 9999 22 (.int .u64 a.lo) (.int .u64 b.lo)).run Tryd.prog w = .ok (a.lo == b.lo) w := by rw [run_equalIn_int w 9998 _ _ _ _ _ Tryd.underlying22, nat_beq]
  simp only [Op.eqFields, Sem.run_bind, Sem.run_ite, p0, p1, p2, q0, q1, q2, Result.andThen_ok, sameA]
  cases (a.v6 == b.v6) <;> cases (a.hi == b.hi) <;> cases (a.lo == b.lo) <;> simp
theorem v4_any (n : Nat) (w : World) (hn : n < 4294967296) :
    Calls Tryd.prog 21 #[.int .u32 n] w fun e w' => e = .returned (.agg #[.bool (v4A n).v6, .int .u64 (v4A n).hi, .int .u64 (v4A n).lo]) ∧ Below w.heap.size w w' := by
  go_enter Tryd.func21, Tryd.ntmps21
  go_wp2
  exact bodyPost_ret (v := .agg #[.bool (v4A n).v6, .int .u64 (v4A n).hi, .int .u64 (v4A n).lo]) (by simp [results, Tryd.results21, go_sem, v4A]) rfl ⟨rfl, (Below.refl _ _).alloc (Nat.le_refl _) _⟩
theorem bits_any (a : Adr) (w : World) :
    Calls Tryd.prog 13 #[.agg #[.bool a.v6, .int .u64 a.hi, .int .u64 a.lo]] w fun e w' => e = .returned (.int .i64 (bitsA a : Nat)) ∧ Below w.heap.size w w' := by
  unfold bitsA
  cases e : a.v6
  · go_enter Tryd.func13, Tryd.ntmps13
    go_wp2
    go_ret
    exact ⟨rfl, (Below.refl _ _).alloc (Nat.le_refl _) _⟩
  · go_enter Tryd.func13, Tryd.ntmps13
    go_wp2
    go_ret
    exact ⟨rfl, (Below.refl _ _).alloc (Nat.le_refl _) _⟩
theorem bbn {x y : Bool} (h : x ≠ y) : (x == y) = false ∧ (x != y) = true ∧ (!(x == y)) = true := by cases x <;> cases y <;> simp at h ⊢
theorem bby {x y : Bool} (h : x = y) : (x == y) = true ∧ (x != y) = false ∧ (!(x == y)) = false := by subst h; cases x <;> simp
theorem iin {x y : Nat} (h : x ≠ y) : ((x : Int) == (y : Int)) = false ∧ ((x : Int) != (y : Int)) = true := by
  rw [beq_eq_false_iff_ne, bne_iff_ne]; omega
theorem iiy {x y : Nat} (h : x = y) : ((x : Int) == (y : Int)) = true ∧ ((x : Int) != (y : Int)) = false := by
  subst h; simp
theorem two_low (w : World) (o p : Obj) : Below w.heap.size w ((w.alloc o).alloc p) := ((Below.refl w.heap.size w).alloc (Nat.le_refl _) o).alloc (by simp) p
theorem before_any (a b : Adr) (w : World) (ha : a.ok) (hb : b.ok) :
    Calls Tryd.prog 30 #[.agg #[.bool a.v6, .int .u64 a.hi, .int .u64 a.lo], .agg #[.bool b.v6, .int .u64 b.hi, .int .u64 b.lo]] w fun e w' => e = .returned (.bool (lessA a b)) ∧ Below w.heap.size w w' := by
  by_cases hv : a.v6 = b.v6
  · obtain ⟨v1, v2, v3⟩ := bby hv
    by_cases hh : a.hi = b.hi
    · have E : Hid (lessA a b = decide (a.lo < b.lo)) := Lib.hid (by unfold lessA; rw [if_pos hv, if_pos hh])
      obtain ⟨i1, i2⟩ := iiy hh
      clear hv hh
      go_enter Tryd.func30, Tryd.ntmps30
      go_wp2
      go_ret
      exact ⟨ret_b E.out.symm, two_low _ _ _⟩
    · have E : Hid (lessA a b = decide (a.hi < b.hi)) := Lib.hid (by unfold lessA; rw [if_pos hv, if_neg hh])
      obtain ⟨i1, i2⟩ := iin hh
      clear hv hh
      go_enter Tryd.func30, Tryd.ntmps30
      go_wp2
      go_ret
      exact ⟨ret_b E.out.symm, two_low _ _ _⟩
  · obtain ⟨v1, v2, v3⟩ := bbn hv
    have E : Hid (lessA a b = b.v6) := Lib.hid (by unfold lessA; rw [if_neg hv])
    clear hv
    go_enter Tryd.func30, Tryd.ntmps30
    go_wp2
    go_ret
    exact ⟨ret_b E.out.symm, two_low _ _ _⟩
theorem v6A_no {hi lo : Nat} (h : stands hi lo = false) : v6A hi lo = ⟨true, hi, lo⟩ := v6A_same h
theorem v6A_yes {hi lo : Nat} (h : stands hi lo = true) : v6A hi lo = ⟨false, 0, lo % 4294967296⟩ := by unfold v6A; rw [h]; rfl
theorem v6_any (hi lo : Nat) (w : World) (h1 : hi < 18446744073709551616) (h2 : lo < 18446744073709551616) :
    Calls Tryd.prog 17 #[.int .u64 hi, .int .u64 lo] w fun e w' => e = .returned (.agg #[.bool (v6A hi lo).v6, .int .u64 (v6A hi lo).hi, .int .u64 (v6A hi lo).lo]) ∧ Below w.heap.size w w' := by
  have V := Lib.hid (v4_any (lo % 4294967296))
  by_cases h0 : hi = 0
  · by_cases hl : lo / 4294967296 = 65535
    · have E : v6A hi lo = ⟨false, 0, lo % 4294967296⟩ := v6A_yes (by rw [stands_iff]; exact ⟨h0, hl⟩)
      rw [E]
      clear E
      subst h0
      have e1 : ((lo : Int) / 4294967296 == 65535) = true := by rw [beq_iff_eq]; omega
      go_enter Tryd.func17, Tryd.ntmps17
      go_wp2_with fail
      refine (V.out _ (by omega)).mono ?_
      rintro e w1 ⟨rfl, hb1⟩
      obtain ⟨hc, hf⟩ := old hb1
      go_wp2
      exact bodyPost_ret (v := .agg #[.bool (v4A (lo % 4294967296)).v6, .int .u64 (v4A (lo % 4294967296)).hi, .int .u64 (v4A (lo % 4294967296)).lo]) (by simp [results, Tryd.results17, go_sem, hc]) rfl ⟨by simp [v4A], (((((Below.refl _ _).alloc (Nat.le_refl _) _).trans (hb1.mono (by simp))).setCell (by simp) _).setCell (by simp) _).setCell (by simp) _⟩
    · have E : v6A hi lo = ⟨true, hi, lo⟩ := v6A_no (by rw [← Bool.not_eq_true, stands_iff]; exact fun e => hl e.2)
      rw [E]
      clear E
      subst h0
      have e1 : ((lo : Int) / 4294967296 == 65535) = false := by rw [beq_eq_false_iff_ne]; omega
      go_enter Tryd.func17, Tryd.ntmps17
      go_wp2_with fail
      exact bodyPost_ret (v := .agg #[.bool true, .int .u64 0, .int .u64 lo]) (by simp [results, Tryd.results17, go_sem]) rfl ⟨rfl, (Below.refl _ _).alloc (Nat.le_refl _) _⟩
  · have E : v6A hi lo = ⟨true, hi, lo⟩ := v6A_no (by rw [← Bool.not_eq_true, stands_iff]; exact fun e => h0 e.1)
    rw [E]
    clear E
    have e1 : ((hi : Int) == 0) = false := by rw [beq_eq_false_iff_ne]; omega
    go_enter Tryd.func17, Tryd.ntmps17
    go_wp2_with fail
    exact bodyPost_ret (v := .agg #[.bool true, .int .u64 hi, .int .u64 lo]) (by simp [results, Tryd.results17, go_sem]) rfl ⟨rfl, (Below.refl _ _).alloc (Nat.le_refl _) _⟩
theorem bit_one (n i : Nat) (h : n < 18446744073709551616) : wrap64 (bits .and .u64 ((n : Int) / 2 ^ i) 1) = ((n / 2 ^ i % 2 : Nat) : Int) := by
  have h3 : n / 2 ^ i < 18446744073709551616 := Nat.lt_of_le_of_lt (Nat.div_le_self _ _) h
  have e := u64_and_nat (n / 2 ^ i) 1 h3 (by omega)
  rw [show ((1 : Nat) : Int) = 1 from rfl] at e
  rw [show ((n : Int) / 2 ^ i) = ((n / 2 ^ i : Nat) : Int) from by rw [Int.natCast_ediv, Int.natCast_pow]; rfl, e, Nat.and_one_is_mod]
  unfold wrap64; omega
theorem bits_is (a : Adr) {n : Nat} (h : bitsA a = n) (w : World) :
    Calls Tryd.prog 13 #[.agg #[.bool a.v6, .int .u64 a.hi, .int .u64 a.lo]] w fun e w' => e = .returned (.int .i64 n) ∧ Below w.heap.size w w' := by
  rw [← h]; exact bits_any a w
set_option maxHeartbeats 1000000 in
theorem bit_any (a : Adr) (i : Int) (w : World) (ha : a.ok) (hi1 : -9223372036854775808 ≤ i) (hi2 : i ≤ 9223372036854775807) :
    Calls Tryd.prog 15 #[.agg #[.bool a.v6, .int .u64 a.hi, .int .u64 a.lo], .int .i64 i] w fun e w' => e = .returned (.int .i64 (bitA a i)) ∧ Below w.heap.size w w' := by
  have hbs : bitsA a = 128 ∨ bitsA a = 32 := by unfold bitsA; split <;> omega
  by_cases h0 : i < 0
  · have E : Hid (bitA a i = 0) := Lib.hid (by unfold bitA; rw [if_neg (by omega)])
    go_enter Tryd.func15, Tryd.ntmps15
    go_wp2_with fail
    go_ret
    exact ⟨ret_i E.out.symm, (Below.refl _ _).alloc (Nat.le_refl _) _⟩
  · by_cases h1 : (bitsA a : Int) ≤ i
    · have E : Hid (bitA a i = 0) := Lib.hid (by unfold bitA; rw [if_neg (by omega)])
      go_enter Tryd.func15, Tryd.ntmps15
      go_wp2_with fail
      refine (bits_any a _).mono ?_
      rintro e w1 ⟨rfl, hb1⟩
      go_wp2_with fail
      go_ret
      exact ⟨ret_i E.out.symm, ((Below.refl _ _).alloc (Nat.le_refl _) _).trans (hb1.mono (by simp))⟩
    · obtain ⟨k, rfl⟩ := Int.eq_ofNat_of_zero_le (Int.not_lt.1 h0)
      have E : Hid (bitA a k = (bitN a k : Nat)) := Lib.hid (by unfold bitA; rw [if_pos (by omega), Int.toNat_natCast])
      clear hi1 hi2 h0
      obtain ⟨ha1, ha2⟩ := ha
      cases hv : a.v6
      · have hb : bitsA a = 32 := by unfold bitsA; rw [hv]; rfl
        have BI := Lib.hid (bits_is a hb)
        have EN : Hid (bitN a k = a.lo / 2 ^ (31 - k) % 2) := Lib.hid (by unfold bitN; rw [hv]; rfl)
        rw [hv] at BI
        rw [hb] at h1
        clear hbs hb hv
        have hk : k < 32 := by omega
        clear h1
        go_enter Tryd.func15, Tryd.ntmps15
        go_wp2_with fail
        refine (BI.out _).mono ?_
        rintro e w1 ⟨rfl, hb1⟩
        obtain ⟨hc, hf⟩ := old hb1
        go_wp2_with fail
        refine (BI.out _).mono ?_
        rintro e w2 ⟨rfl, hb2⟩
        clear hc hf
        have hb12 := low_trans hb1 hb2
        obtain ⟨hc, hf⟩ := old hb12
        go_wp2_with fail
        go_ret
        exact ⟨ret_i (by rw [E.out, EN.out]; exact bit_one _ _ ha2), ((Below.refl _ _).alloc (Nat.le_refl _) _).trans (hb12.mono (by simp))⟩
      · have hb : bitsA a = 128 := by unfold bitsA; rw [hv]; rfl
        have BI := Lib.hid (bits_is a hb)
        rw [hv] at BI
        rw [hb] at h1
        clear hbs hb
        by_cases h64 : k < 64
        · have EN : Hid (bitN a k = a.hi / 2 ^ (127 - k - 64) % 2) := Lib.hid (by unfold bitN; rw [hv, if_pos rfl, if_pos h64]; congr 3; omega)
          clear hv
          have hk : 64 ≤ 127 - (k : Int) := by omega
          clear h1
          go_enter Tryd.func15, Tryd.ntmps15
          go_wp2_with fail
          refine (BI.out _).mono ?_
          rintro e w1 ⟨rfl, hb1⟩
          obtain ⟨hc, hf⟩ := old hb1
          go_wp2_with fail
          refine (BI.out _).mono ?_
          rintro e w2 ⟨rfl, hb2⟩
          clear hc hf
          have hb12 := low_trans hb1 hb2
          obtain ⟨hc, hf⟩ := old hb12
          go_wp2_with fail
          go_ret
          exact ⟨ret_i (by rw [E.out, EN.out]; exact bit_one _ _ ha1), ((Below.refl _ _).alloc (Nat.le_refl _) _).trans (hb12.mono (by simp))⟩
        · have EN : Hid (bitN a k = a.lo / 2 ^ (127 - k) % 2) := Lib.hid (by unfold bitN; rw [hv, if_pos rfl, if_neg h64])
          clear hv
          have hk2 : k ≤ 127 := by omega
          have hk : ¬ 64 ≤ 127 - (k : Int) := by omega
          clear h1
          go_enter Tryd.func15, Tryd.ntmps15
          go_wp2_with fail
          refine (BI.out _).mono ?_
          rintro e w1 ⟨rfl, hb1⟩
          obtain ⟨hc, hf⟩ := old hb1
          go_wp2_with fail
          refine (BI.out _).mono ?_
          rintro e w2 ⟨rfl, hb2⟩
          clear hc hf
          have hb12 := low_trans hb1 hb2
          obtain ⟨hc, hf⟩ := old hb12
          go_wp2_with fail
          go_ret
          exact ⟨ret_i (by rw [E.out, EN.out]; exact bit_one _ _ ha2), ((Below.refl _ _).alloc (Nat.le_refl _) _).trans (hb12.mono (by simp))⟩
end Go.Proofs.YtokbifndhkijiaaDoor.Ad
