/- Contracts of package addr: what needs no text. -/
import Derived.Test.YtgnjbbohphoojaaMath
import Derived.Test.YtgnjbbohphoojaaKit
import Derived.Laws.StructEq
import Derived.Laws.BitsAllLaws
import Derived.Deep.RegionHeld3
import Derived.Outline
import Derived.Test.YtgnjbbohphoojaaRef05All
namespace Go.Proofs.Ytgnjbbohphoojaa.Ad
set_option maxRecDepth 100000
open Go.ChangeShapes Go.WideShapes Go.ChangeAt Go.RowKit
set_option linter.unusedVariables false
theorem part_one {P : Program} (w : World) (t : TypeId) (cs : Array Value) (o : Nat) (v : Value) (h : (isAgg t).run P w = .ok false w) (hv : cs[o]? = some v) : (part t cs o).run P w = .ok v w := by
  simp [part, h, hv]
theorem nat_beq (m n : Nat) : ((m : Int) == (n : Int)) = (m == n) := by rw [Bool.eq_iff_iff, beq_iff_eq, beq_iff_eq]; omega
theorem eqAdr (a b : Adr) (w : World) : (binOp .eql 31 (.agg #[.bool a.v6, .int .u64 a.hi, .int .u64 a.lo]) (.agg #[.bool b.v6, .int .u64 b.hi, .int .u64 b.lo])).run Try.prog w = .ok (.bool (sameA a b)) w := by
  have h4 : ∀ w : World, (isAgg 4).run Try.prog w = .ok false w := fun _ => by kernel_rfl
  have h22 : ∀ w : World, (isAgg 29).run Try.prog w = .ok false w := fun _ => by kernel_rfl
  rw [run_eql_struct, run_equalIn_struct w 9999 _ _ _ (by kernel_rfl) (by kernel_rfl)]
  rw [show (Try.prog.fieldsOf 31).toList = [⟨"V6", 4, 0, false, "", "", 0⟩, ⟨"Hi", 29, 1, false, "", "", 8⟩, ⟨"Lo", 29, 2, false, "", "", 16⟩] from by kernel_rfl]
  have p0 : ∀ a : Adr, (part 4 #[.bool a.v6, .int .u64 a.hi, .int .u64 a.lo] 0).run Try.prog w = .ok (.bool a.v6) w := fun a => part_one w _ _ _ _ (h4 w) rfl
  have p1 : ∀ a : Adr, (part 29 #[.bool a.v6, .int .u64 a.hi, .int .u64 a.lo] 1).run Try.prog w = .ok (.int .u64 a.hi) w := fun a => part_one w _ _ _ _ (h22 w) rfl
  have p2 : ∀ a : Adr, (part 29 #[.bool a.v6, .int .u64 a.hi, .int .u64 a.lo] 2).run Try.prog w = .ok (.int .u64 a.lo) w := fun a => part_one w _ _ _ _ (h22 w) rfl
  have q0 : (Op.equalIn 9999 4 (.bool a.v6) (.bool b.v6)).run Try.prog w = .ok (a.v6 == b.v6) w := run_equalIn_bool' w 9998 _ _ _ Try.underlying4
  have q1 : (Op.equalIn 9999 29 (.int .u64 a.hi) (.int .u64 b.hi)).run Try.prog w = .ok (a.hi == b.hi) w := by rw [run_equalIn_int w 9998 _ _ _ _ _ Try.underlying29, nat_beq]
  have q2 : (Op.equalIn 9999 29 (.int .u64 a.lo) (.int .u64 b.lo)).run Try.prog w = .ok (a.lo == b.lo) w := by rw [run_equalIn_int w 9998 _ _ _ _ _ Try.underlying29, nat_beq]
  simp only [Op.eqFields, Sem.run_bind, Sem.run_ite, p0, p1, p2, q0, q1, q2, Result.andThen_ok, sameA]
  cases (a.v6 == b.v6) <;> cases (a.hi == b.hi) <;> cases (a.lo == b.lo) <;> simp
theorem v4_any (n : Nat) (w : World) (hn : n < 4294967296) :
    Calls Try.prog 64 #[.int .u32 n] w fun e w' => e = .returned (.agg #[.bool (v4A n).v6, .int .u64 (v4A n).hi, .int .u64 (v4A n).lo]) ∧ Below w.heap.size w w' := by
  go_enter Try.func64, Try.ntmps64
  go_wp2
  exact bodyPost_ret (v := .agg #[.bool (v4A n).v6, .int .u64 (v4A n).hi, .int .u64 (v4A n).lo]) (by simp [results, Try.results64, go_sem, v4A]) rfl ⟨rfl, (Below.refl _ _).alloc (Nat.le_refl _) _⟩
theorem bits_any (a : Adr) (w : World) :
    Calls Try.prog 74 #[.agg #[.bool a.v6, .int .u64 a.hi, .int .u64 a.lo]] w fun e w' => e = .returned (.int .i64 (bitsA a : Nat)) ∧ Below w.heap.size w w' := by
  unfold bitsA
  cases e : a.v6
  · go_enter Try.func74, Try.ntmps74
    go_wp2
    go_ret
    exact ⟨rfl, (Below.refl _ _).alloc (Nat.le_refl _) _⟩
  · go_enter Try.func74, Try.ntmps74
    go_wp2
    go_ret
    exact ⟨rfl, (Below.refl _ _).alloc (Nat.le_refl _) _⟩
theorem bbn {x y : Bool} (h : x ≠ y) : (x == y) = false ∧ (x != y) = true ∧ (!(x == y)) = true := by cases x <;> cases y <;> simp at h ⊢
theorem bby {x y : Bool} (h : x = y) : (x == y) = true ∧ (x != y) = false ∧ (!(x == y)) = false := by subst h; cases x <;> simp
theorem iin {x y : Nat} (h : x ≠ y) : ((x : Int) == (y : Int)) = false ∧ ((x : Int) != (y : Int)) = true := by
  rw [beq_eq_false_iff_ne, bne_iff_ne]; omega
theorem iiy {x y : Nat} (h : x = y) : ((x : Int) == (y : Int)) = true ∧ ((x : Int) != (y : Int)) = false := by
  subst h; simp
theorem two_low (w : World) (o p : Obj) : Below w.heap.size w ((w.alloc o).alloc p) := ((Below.refl w.heap.size w).alloc (Nat.le_refl _) o).alloc (by simp) p
theorem before_any (a b : Adr) (w : World) (ha : a.ok) (hb : b.ok) :
    Calls Try.prog 73 #[.agg #[.bool a.v6, .int .u64 a.hi, .int .u64 a.lo], .agg #[.bool b.v6, .int .u64 b.hi, .int .u64 b.lo]] w fun e w' => e = .returned (.bool (lessA a b)) ∧ Below w.heap.size w w' := by
  by_cases hv : a.v6 = b.v6
  · obtain ⟨v1, v2, v3⟩ := bby hv
    by_cases hh : a.hi = b.hi
    · have E : Hid (lessA a b = decide (a.lo < b.lo)) := Lib.hid (by unfold lessA; rw [if_pos hv, if_pos hh])
      obtain ⟨i1, i2⟩ := iiy hh
      clear hv hh
      go_enter Try.func73, Try.ntmps73
      go_wp2
      go_ret
      exact ⟨ret_b E.out.symm, two_low _ _ _⟩
    · have E : Hid (lessA a b = decide (a.hi < b.hi)) := Lib.hid (by unfold lessA; rw [if_pos hv, if_neg hh])
      obtain ⟨i1, i2⟩ := iin hh
      clear hv hh
      go_enter Try.func73, Try.ntmps73
      go_wp2
      go_ret
      exact ⟨ret_b E.out.symm, two_low _ _ _⟩
  · obtain ⟨v1, v2, v3⟩ := bbn hv
    have E : Hid (lessA a b = b.v6) := Lib.hid (by unfold lessA; rw [if_neg hv])
    clear hv
    go_enter Try.func73, Try.ntmps73
    go_wp2
    go_ret
    exact ⟨ret_b E.out.symm, two_low _ _ _⟩
theorem v6A_no {hi lo : Nat} (h : stands hi lo = false) : v6A hi lo = ⟨true, hi, lo⟩ := v6A_same h
theorem v6A_yes {hi lo : Nat} (h : stands hi lo = true) : v6A hi lo = ⟨false, 0, lo % 4294967296⟩ := by unfold v6A; rw [h]; rfl
theorem v6_any (hi lo : Nat) (w : World) (h1 : hi < 18446744073709551616) (h2 : lo < 18446744073709551616) :
    Calls Try.prog 63 #[.int .u64 hi, .int .u64 lo] w fun e w' => e = .returned (.agg #[.bool (v6A hi lo).v6, .int .u64 (v6A hi lo).hi, .int .u64 (v6A hi lo).lo]) ∧ Below w.heap.size w w' := by
  have V := Lib.hid (v4_any (lo % 4294967296))
  by_cases h0 : hi = 0
  · by_cases hl : lo / 4294967296 = 65535
    · have E : v6A hi lo = ⟨false, 0, lo % 4294967296⟩ := v6A_yes (by rw [stands_iff]; exact ⟨h0, hl⟩)
      rw [E]
      clear E
      subst h0
      have e1 : ((lo : Int) / 4294967296 == 65535) = true := by rw [beq_iff_eq]; omega
      go_enter Try.func63, Try.ntmps63
      go_wp2_with fail
      refine (V.out _ (by omega)).mono ?_
      rintro e w1 ⟨rfl, hb1⟩
      obtain ⟨hc, hf⟩ := old hb1
      go_wp2
      exact bodyPost_ret (v := .agg #[.bool (v4A (lo % 4294967296)).v6, .int .u64 (v4A (lo % 4294967296)).hi, .int .u64 (v4A (lo % 4294967296)).lo]) (by simp [results, Try.results63, go_sem, hc]) rfl ⟨by simp [v4A], (((((Below.refl _ _).alloc (Nat.le_refl _) _).trans (hb1.mono (by simp))).setCell (by simp) _).setCell (by simp) _).setCell (by simp) _⟩
    · have E : v6A hi lo = ⟨true, hi, lo⟩ := v6A_no (by rw [← Bool.not_eq_true, stands_iff]; exact fun e => hl e.2)
      rw [E]
      clear E
      subst h0
      have e1 : ((lo : Int) / 4294967296 == 65535) = false := by rw [beq_eq_false_iff_ne]; omega
      go_enter Try.func63, Try.ntmps63
      go_wp2_with fail
      exact bodyPost_ret (v := .agg #[.bool true, .int .u64 0, .int .u64 lo]) (by simp [results, Try.results63, go_sem]) rfl ⟨rfl, (Below.refl _ _).alloc (Nat.le_refl _) _⟩
  · have E : v6A hi lo = ⟨true, hi, lo⟩ := v6A_no (by rw [← Bool.not_eq_true, stands_iff]; exact fun e => h0 e.1)
    rw [E]
    clear E
    have e1 : ((hi : Int) == 0) = false := by rw [beq_eq_false_iff_ne]; omega
    go_enter Try.func63, Try.ntmps63
    go_wp2_with fail
    exact bodyPost_ret (v := .agg #[.bool true, .int .u64 hi, .int .u64 lo]) (by simp [results, Try.results63, go_sem]) rfl ⟨rfl, (Below.refl _ _).alloc (Nat.le_refl _) _⟩
theorem bit_one (n i : Nat) (h : n < 18446744073709551616) : wrap64 (bits .and .u64 ((n : Int) / 2 ^ i) 1) = ((n / 2 ^ i % 2 : Nat) : Int) := by
  have h3 : n / 2 ^ i < 18446744073709551616 := Nat.lt_of_le_of_lt (Nat.div_le_self _ _) h
  have e := u64_and_nat (n / 2 ^ i) 1 h3 (by omega)
  rw [show ((1 : Nat) : Int) = 1 from rfl] at e
  rw [show ((n : Int) / 2 ^ i) = ((n / 2 ^ i : Nat) : Int) from by rw [Int.natCast_ediv, Int.natCast_pow]; rfl, e, Nat.and_one_is_mod]
  unfold wrap64; omega
theorem bits_is (a : Adr) {n : Nat} (h : bitsA a = n) (w : World) :
    Calls Try.prog 74 #[.agg #[.bool a.v6, .int .u64 a.hi, .int .u64 a.lo]] w fun e w' => e = .returned (.int .i64 n) ∧ Below w.heap.size w w' := by
  rw [← h]; exact bits_any a w
end Go.Proofs.Ytgnjbbohphoojaa.Ad
/- Contract of package addr: may an address be? -/
namespace Go.Proofs.Ytgnjbbohphoojaa.Ad
set_option maxRecDepth 100000
open Go.ChangeShapes Go.WideShapes Go.ChangeAt Go.RowKit
set_option linter.unusedVariables false
theorem right_six (hi lo : Nat) : rightA ⟨true, hi, lo⟩ = sameA ⟨true, hi, lo⟩ (v6A hi lo) := by
  unfold rightA v6A
  cases stands hi lo <;> simp [sameA]
theorem right_four (hi lo : Nat) : rightA ⟨false, hi, lo⟩ = sameA ⟨false, hi, lo⟩ (v4A (lo % 4294967296)) := by
  unfold rightA v4A sameA
  rw [Bool.eq_iff_iff]
  simp only [Bool.false_eq_true, if_false, Bool.and_eq_true, decide_eq_true_eq, beq_iff_eq, beq_self_eq_true, true_and]
  omega
/-- What is left of a world in which an address was laid. -/
def Stays (W w : World) : Prop := Below W.heap.size W w
abbrev Boxed (v : Bool) (hi lo : Nat) (w W : World) : Prop := W.cell? ⟨w.heap.size, 0, none⟩ = some (.bool v) ∧ W.cell? ⟨w.heap.size, 1, none⟩ = some (.int .u64 hi) ∧ W.cell? ⟨w.heap.size, 2, none⟩ = some (.int .u64 lo) ∧ Stays (w.alloc (.cells #[.bool v, .int .u64 hi, .int .u64 lo] 31)) W
theorem box_left {v : Bool} {hi lo : Nat} {w W : World} (h : Stays (w.alloc (.cells #[.bool v, .int .u64 hi, .int .u64 lo] 31)) W) :
    W.cell? ⟨w.heap.size, 0, none⟩ = some (.bool v) ∧ W.cell? ⟨w.heap.size, 1, none⟩ = some (.int .u64 hi) ∧ W.cell? ⟨w.heap.size, 2, none⟩ = some (.int .u64 lo) ∧ Stays (w.alloc (.cells #[.bool v, .int .u64 hi, .int .u64 lo] 31)) W := by
  obtain ⟨hc, _⟩ := old h
  refine ⟨?_, ?_, ?_, h⟩ <;> (rw [hc _ _ (by simp), cell_of_row _ _ _ _ _ _ (heap_alloc_new w _)]; rfl)
set_option maxHeartbeats 1000000 in
theorem right_any (a : Adr) (w : World) (ha : a.ok) :
    Calls Try.prog 44 #[.agg #[.bool a.v6, .int .u64 a.hi, .int .u64 a.lo]] w fun e w' => e = .returned (.bool (rightA a)) ∧ Below w.heap.size w w' := by
  obtain ⟨v, hi, lo⟩ := a
  obtain ⟨h1, h2⟩ := ha
  simp only [] at h1 h2
  cases v
  · rw [right_four]
    have EQ := fun W => eqAdr ⟨false, hi, lo⟩ (v4A (lo % 4294967296)) W
    simp only [] at EQ
    have V : Hid (∀ W, Boxed false hi lo w W → Calls Try.prog 64 #[.int .u32 ((lo : Int) % 4294967296)] W fun e w' => e = .returned (.agg #[.bool (v4A (lo % 4294967296)).v6, .int .u64 (v4A (lo % 4294967296)).hi, .int .u64 (v4A (lo % 4294967296)).lo]) ∧ Boxed false hi lo w w') := by
      intro W h
      have hc : Calls Try.prog 64 #[.int .u32 ((lo : Int) % 4294967296)] W fun e w' => e = .returned (.agg #[.bool (v4A (lo % 4294967296)).v6, .int .u64 (v4A (lo % 4294967296)).hi, .int .u64 (v4A (lo % 4294967296)).lo]) ∧ Below W.heap.size W w' := by rw [show ((lo : Int) % 4294967296) = ((lo % 4294967296 : Nat) : Int) from by omega]; exact v4_any (lo % 4294967296) W (by omega)
      exact hc.mono fun e w' ⟨he, hb⟩ => ⟨he, box_left (low_trans h.2.2.2 hb)⟩
    have q1 : IntKind.u32.wrap (lo : Int) = (lo : Int) % 4294967296 := IntKind.wrap_u32 _
    have hk0 : Boxed false hi lo w (w.alloc (.cells #[.bool false, .int .u64 hi, .int .u64 lo] 31)) := box_left (Below.refl _ _)
    go_enter Try.func44, Try.ntmps44
    go_wp2_with fail
    go_region_held3 (fun w' => w'.cell? ⟨w.heap.size, 0, none⟩ = some (.bool false) ∧ w'.cell? ⟨w.heap.size, 1, none⟩ = some (.int .u64 hi) ∧ w'.cell? ⟨w.heap.size, 2, none⟩ = some (.int .u64 lo) ∧ Stays (w.alloc (.cells #[.bool false, .int .u64 hi, .int .u64 lo] 31)) w')
      (first | assumption | exact box_left (Below.refl _ _) | exact box_left (low_drewN (‹Boxed false hi lo w _›).2.2.2 1))
      (first | (go_at_call 64; (with_reducible refine (V.out _ ‹_›).mono ?_); rintro e w5 ⟨rfl, hkw⟩))
    go_wp2
    go_ret
    exact ⟨rfl, ((Below.refl _ _).alloc (Nat.le_refl _) _).trans ((‹Boxed false hi lo w _›).2.2.2.mono (by simp))⟩
  · rw [right_six]
    have EQ := fun W => eqAdr ⟨true, hi, lo⟩ (v6A hi lo) W
    simp only [] at EQ
    have V : Hid (∀ W, Boxed true hi lo w W → Calls Try.prog 63 #[.int .u64 hi, .int .u64 lo] W fun e w' => e = .returned (.agg #[.bool (v6A hi lo).v6, .int .u64 (v6A hi lo).hi, .int .u64 (v6A hi lo).lo]) ∧ Boxed true hi lo w w') := by
      intro W h
      have hc : Calls Try.prog 63 #[.int .u64 hi, .int .u64 lo] W fun e w' => e = .returned (.agg #[.bool (v6A hi lo).v6, .int .u64 (v6A hi lo).hi, .int .u64 (v6A hi lo).lo]) ∧ Below W.heap.size W w' := by exact v6_any hi lo W h1 h2
      exact hc.mono fun e w' ⟨he, hb⟩ => ⟨he, box_left (low_trans h.2.2.2 hb)⟩
    have hk0 : Boxed true hi lo w (w.alloc (.cells #[.bool true, .int .u64 hi, .int .u64 lo] 31)) := box_left (Below.refl _ _)
    go_enter Try.func44, Try.ntmps44
    go_wp2_with fail
    go_region_held3 (fun w' => w'.cell? ⟨w.heap.size, 0, none⟩ = some (.bool true) ∧ w'.cell? ⟨w.heap.size, 1, none⟩ = some (.int .u64 hi) ∧ w'.cell? ⟨w.heap.size, 2, none⟩ = some (.int .u64 lo) ∧ Stays (w.alloc (.cells #[.bool true, .int .u64 hi, .int .u64 lo] 31)) w')
      (first | assumption | exact box_left (Below.refl _ _) | exact box_left (low_drewN (‹Boxed true hi lo w _›).2.2.2 1))
      (first | (go_at_call 63; (with_reducible refine (V.out _ ‹_›).mono ?_); rintro e w5 ⟨rfl, hkw⟩))
    go_wp2
    go_ret
    exact ⟨rfl, ((Below.refl _ _).alloc (Nat.le_refl _) _).trans ((‹Boxed true hi lo w _›).2.2.2.mono (by simp))⟩
end Go.Proofs.Ytgnjbbohphoojaa.Ad
/- Contracts of package addr: texts, and the order. -/
namespace Go.Proofs.Ytgnjbbohphoojaa.Ad
set_option maxRecDepth 100000
open Go.ChangeShapes Go.WideShapes Go.ChangeAt Go.RowKit
open Dec Words V4 V6
set_option linter.unusedVariables false
theorem compare_any (a b : Adr) (w : World) (ha : a.ok) (hb : b.ok) :
    Calls Try.prog 59 #[.agg #[.bool a.v6, .int .u64 a.hi, .int .u64 a.lo], .agg #[.bool b.v6, .int .u64 b.hi, .int .u64 b.lo]] w fun e w' => e = .returned (.int .i64 (cmpA a b)) ∧ Below w.heap.size w w' := by
  have EQ := fun W => eqAdr a b W
  cases hs : sameA a b
  · rw [hs] at EQ
    have BE := Lib.hid (before_any a b)
    cases hl : lessA a b
    · have E : Hid (cmpA a b = 1) := Lib.hid (by unfold cmpA; rw [hs, hl]; rfl)
      rw [hl] at BE
      clear hs hl
      go_enter Try.func59, Try.ntmps59
      go_wp2_with fail
      refine (BE.out _ ha hb).mono ?_
      rintro e w1 ⟨rfl, hb1⟩
      go_wp2_with fail
      go_ret
      exact ⟨ret_i E.out.symm, (two_low _ _ _).trans (hb1.mono (by simp; omega))⟩
    · have E : Hid (cmpA a b = -1) := Lib.hid (by unfold cmpA; rw [hs, hl]; rfl)
      rw [hl] at BE
      clear hs hl
      go_enter Try.func59, Try.ntmps59
      go_wp2_with fail
      refine (BE.out _ ha hb).mono ?_
      rintro e w1 ⟨rfl, hb1⟩
      go_wp2_with fail
      go_ret
      exact ⟨ret_i E.out.symm, (two_low _ _ _).trans (hb1.mono (by simp; omega))⟩
  · rw [hs] at EQ
    have E : Hid (cmpA a b = 0) := Lib.hid (by unfold cmpA; rw [hs]; rfl)
    clear hs
    go_enter Try.func59, Try.ntmps59
    go_wp2_with fail
    go_ret
    exact ⟨ret_i E.out.symm, two_low _ _ _⟩
def ParseA (l : List UInt8) (w : World) (e : Ending) (w' : World) : Prop := e = .returned (.tuple #[.agg #[.bool (parseA l).v6, .int .u64 (parseA l).hi, .int .u64 (parseA l).lo], .bool (okA l)]) ∧ Below w.heap.size w w'
theorem parseA_mk {l : List UInt8} {w w' : World} {e : Ending} {a : Adr} {b : Bool} (ha : parseA l = a) (hb : okA l = b) (he : e = .returned (.tuple #[.agg #[.bool a.v6, .int .u64 a.hi, .int .u64 a.lo], .bool b])) (h : Below w.heap.size w w') : ParseA l w e w' := by
  subst ha hb; exact ⟨he, h⟩
end Go.Proofs.Ytgnjbbohphoojaa.Ad
/- Contracts of the document's answers for layer 6: what needs no text. -/
namespace Go.Proofs.Ytgnjbbohphoojaa.Ad
set_option maxRecDepth 100000
open Go.ChangeShapes Go.WideShapes Go.ChangeAt Go.RowKit
set_option linter.unusedVariables false
theorem rbits_any (a : Adr) (w : World) :
    Calls Try.prog 23 #[.agg #[.bool a.v6, .int .u64 a.hi, .int .u64 a.lo]] w fun e w' => e = .returned (.int .i64 (bitsA a : Nat)) ∧ Below w.heap.size w w' := by
  unfold bitsA
  cases e : a.v6
  · go_enter Try.func23, Try.ntmps23
    go_wp2
    go_ret
    exact ⟨rfl, (Below.refl _ _).alloc (Nat.le_refl _) _⟩
  · go_enter Try.func23, Try.ntmps23
    go_wp2
    go_ret
    exact ⟨rfl, (Below.refl _ _).alloc (Nat.le_refl _) _⟩
theorem rbits_is (a : Adr) {n : Nat} (h : bitsA a = n) (w : World) :
    Calls Try.prog 23 #[.agg #[.bool a.v6, .int .u64 a.hi, .int .u64 a.lo]] w fun e w' => e = .returned (.int .i64 n) ∧ Below w.heap.size w w' := by
  rw [← h]; exact rbits_any a w
theorem rright_any (a : Adr) (w : World) (ha : a.ok) :
    Calls Try.prog 19 #[.agg #[.bool a.v6, .int .u64 a.hi, .int .u64 a.lo]] w fun e w' => e = .returned (.bool (rightA a)) ∧ Below w.heap.size w w' := by
  obtain ⟨v, hi, lo⟩ := a
  obtain ⟨h1, h2⟩ := ha
  simp only [] at h1 h2
  by_cases h0 : hi = 0
  · subst h0
    cases v
    · have E : Hid (rightA ⟨false, 0, lo⟩ = decide (lo < 4294967296)) := Lib.hid (by simp [rightA])
      go_enter Try.func19, Try.ntmps19
      go_wp2
      go_ret
      exact ⟨ret_b (by rw [E.out, Bool.eq_iff_iff, decide_eq_true_eq, decide_eq_true_eq]; omega), (Below.refl _ _).alloc (Nat.le_refl _) _⟩
    · have E : Hid (rightA ⟨true, 0, lo⟩ = !decide (lo / 4294967296 = 65535)) := Lib.hid (by simp [rightA, stands])
      go_enter Try.func19, Try.ntmps19
      go_wp2
      go_ret
      exact ⟨ret_b (by rw [E.out, Bool.eq_iff_iff, bne_iff_ne, Bool.not_eq_true', decide_eq_false_iff_not]; omega), (Below.refl _ _).alloc (Nat.le_refl _) _⟩
  · have e1 : ((hi : Int) == 0) = false := by rw [beq_eq_false_iff_ne]; omega
    have e2 : ((hi : Int) != 0) = true := by rw [bne_iff_ne]; omega
    cases v
    · have E : Hid (rightA ⟨false, hi, lo⟩ = false) := Lib.hid (by simp [rightA, h0])
      clear h0
      go_enter Try.func19, Try.ntmps19
      go_wp2
      go_ret
      exact ⟨ret_b E.out.symm, (Below.refl _ _).alloc (Nat.le_refl _) _⟩
    · have E : Hid (rightA ⟨true, hi, lo⟩ = true) := Lib.hid (by simp [rightA, stands, h0])
      clear h0
      go_enter Try.func19, Try.ntmps19
      go_wp2
      go_ret
      exact ⟨ret_b E.out.symm, (Below.refl _ _).alloc (Nat.le_refl _) _⟩
set_option maxHeartbeats 1000000 in
theorem rbit_any (a : Adr) (i : Int) (w : World) (ha : a.ok) (hi1 : -9223372036854775808 ≤ i) (hi2 : i ≤ 9223372036854775807) :
    Calls Try.prog 20 #[.agg #[.bool a.v6, .int .u64 a.hi, .int .u64 a.lo], .int .i64 i] w fun e w' => e = .returned (.int .i64 (bitA a i)) ∧ Below w.heap.size w w' := by
  have hbs : bitsA a = 128 ∨ bitsA a = 32 := by unfold bitsA; split <;> omega
  by_cases h0 : i < 0
  · have E : Hid (bitA a i = 0) := Lib.hid (by unfold bitA; rw [if_neg (by omega)])
    go_enter Try.func20, Try.ntmps20
    go_wp2_with fail
    go_ret
    exact ⟨ret_i E.out.symm, (Below.refl _ _).alloc (Nat.le_refl _) _⟩
  · by_cases h1 : (bitsA a : Int) ≤ i
    · have E : Hid (bitA a i = 0) := Lib.hid (by unfold bitA; rw [if_neg (by omega)])
      go_enter Try.func20, Try.ntmps20
      go_wp2_with fail
      refine (rbits_any a _).mono ?_
      rintro e w1 ⟨rfl, hb1⟩
      go_wp2_with fail
      go_ret
      exact ⟨ret_i E.out.symm, ((Below.refl _ _).alloc (Nat.le_refl _) _).trans (hb1.mono (by simp))⟩
    · obtain ⟨k, rfl⟩ := Int.eq_ofNat_of_zero_le (Int.not_lt.1 h0)
      have E : Hid (bitA a k = (bitN a k : Nat)) := Lib.hid (by unfold bitA; rw [if_pos (by omega), Int.toNat_natCast])
      clear hi1 hi2 h0
      obtain ⟨v, hi, lo⟩ := a
      obtain ⟨ha1, ha2⟩ := ha
      simp only [] at ha1 ha2
      cases v
      · have BI := Lib.hid (rbits_is ⟨false, hi, lo⟩ (n := 32) rfl)
        have EN : Hid (bitN ⟨false, hi, lo⟩ k = lo / 2 ^ (31 - k) % 2) := Lib.hid rfl
        clear hbs
        have hk : k < 32 := by simp [bitsA] at h1; omega
        clear h1
        go_enter Try.func20, Try.ntmps20
        go_wp2_with fail
        refine (BI.out _).mono ?_
        rintro e w1 ⟨rfl, hb1⟩
        obtain ⟨hc, hf⟩ := old hb1
        go_wp2_with fail
        go_ret
        exact ⟨ret_i (by rw [E.out, EN.out]; exact bit_one _ _ ha2), ((Below.refl _ _).alloc (Nat.le_refl _) _).trans (hb1.mono (by simp))⟩
      · have BI := Lib.hid (rbits_is ⟨true, hi, lo⟩ (n := 128) rfl)
        clear hbs
        by_cases h64 : k < 64
        · have EN : Hid (bitN ⟨true, hi, lo⟩ k = hi / 2 ^ (63 - k % 64) % 2) := Lib.hid (by unfold bitN; rw [if_pos rfl, if_pos h64, Nat.mod_eq_of_lt h64])
          have hk : k < 128 := by omega
          clear h1
          go_enter Try.func20, Try.ntmps20
          go_wp2_with fail
          refine (BI.out _).mono ?_
          rintro e w1 ⟨rfl, hb1⟩
          obtain ⟨hc, hf⟩ := old hb1
          go_wp2_with fail
          go_ret
          exact ⟨ret_i (by rw [E.out, EN.out]; exact bit_one _ _ ha1), ((Below.refl _ _).alloc (Nat.le_refl _) _).trans (hb1.mono (by simp))⟩
        · have EN : Hid (bitN ⟨true, hi, lo⟩ k = lo / 2 ^ (63 - k % 64) % 2) := Lib.hid (by unfold bitN; rw [if_pos rfl, if_neg h64]; simp [bitsA] at h1; congr 3; omega)
          have hk : k < 128 := by simp [bitsA] at h1; omega
          clear h1
          go_enter Try.func20, Try.ntmps20
          go_wp2_with fail
          refine (BI.out _).mono ?_
          rintro e w1 ⟨rfl, hb1⟩
          obtain ⟨hc, hf⟩ := old hb1
          go_wp2_with fail
          go_ret
          exact ⟨ret_i (by rw [E.out, EN.out]; exact bit_one _ _ ha2), ((Below.refl _ _).alloc (Nat.le_refl _) _).trans (hb1.mono (by simp))⟩
end Go.Proofs.Ytgnjbbohphoojaa.Ad
/- Contracts of the document's answers for layer 6: texts. -/
namespace Go.Proofs.Ytgnjbbohphoojaa.Ad
set_option maxRecDepth 100000
open Go.ChangeShapes Go.WideShapes Go.ChangeAt Go.RowKit
open Dec Words V4 V6
set_option linter.unusedVariables false
end Go.Proofs.Ytgnjbbohphoojaa.Ad
