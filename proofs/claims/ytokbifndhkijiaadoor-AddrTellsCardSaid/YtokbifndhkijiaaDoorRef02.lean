/- Contracts of the document's answers for layer 2. -/
import Derived.Test.YtokbifndhkijiaaDoorKit
import Derived.Test.YtokbifndhkijiaaDoorDecMath
import Derived.Laws.IdiomStrings
namespace Go.Proofs.YtokbifndhkijiaaDoor.Dec
set_option maxRecDepth 100000
open Go.ChangeShapes Go.WideShapes Go.ChangeAt Go.RowKit
set_option linter.unusedVariables false
theorem rsize_any (n : Int) (w : World) (h0 : -9223372036854775808 ≤ n) (h1 : n ≤ 9223372036854775807) :
    Calls Tryd.prog 63 #[.int .i64 n] w fun e w' => e = .returned (.int .u64 (n.natAbs : Nat)) ∧ w = w' := by
  by_cases h : n < 0
  · obtain ⟨m, rfl⟩ : ∃ m : Nat, n = -(m : Int) := ⟨n.natAbs, by omega⟩
    go_enter Tryd.func63, Tryd.ntmps63
    go_wp2
    go_ret
    exact ⟨ret_i (by simp; omega), rfl⟩
  · go_enter Tryd.func63, Tryd.ntmps63
    go_wp2
    go_ret
    exact ⟨ret_i (by omega), rfl⟩
theorem one_byte (w : World) (x : Int) (c : UInt8) (hx : x = (c.toNat : Int)) :
    (convert 81 9 (.slice (some ⟨w.heap.size, 0, none⟩) 1 1)).run Tryd.prog (w.alloc (.cells #[.int .u8 x] 5)) = .ok (.string ⟨[c].toArray⟩) (w.alloc (.cells #[.int .u8 x] 5)) := by
  refine run_convert_bytes_back (P := Tryd.prog) (w.alloc (.cells #[.int .u8 x] 5)) 81 9 5 ⟨w.heap.size, 0, none⟩ 1 [c] Tryd.underlying81 Tryd.underlying5 Tryd.underlying9 ?_
  intro j hj
  obtain rfl : j = 0 := by simp at hj; exact hj
  subst hx
  rw [show (⟨w.heap.size, 0, none⟩ : Addr).add 0 = ⟨w.heap.size, 0, none⟩ from rfl, World.cell?_alloc_mark]
  rfl
theorem digit_dec (n : Nat) : (48 + (n : Int) % 10) = ((digit (n % 10)).toNat : Int) := by
  have h : n % 10 < 10 := Nat.mod_lt _ (by omega)
  have : ∀ d : Fin 10, (digit d.val).toNat = 48 + d.val := by decide
  have := this ⟨n % 10, h⟩
  simp only [] at this
  omega
theorem digits_any (k : Nat) : ∀ (n : Int) (w : World), n ≤ k → 0 ≤ n → n ≤ 18446744073709551615 →
    Calls Tryd.prog 59 #[.int .u64 n] w fun e w' => e = .returned (.string ⟨(digs 10 n.toNat).toArray⟩) ∧ Below w.heap.size w w' := by
  induction k with
  | zero =>
    intro n w hk h0 h1
    have h2 : n < 10 := by omega
    have ho := one_byte w (48 + n % 10) (digit (n.toNat % 10)) (by have := digit_dec n.toNat; rw [show ((n.toNat : Nat) : Int) = n by omega] at this; exact this)
    go_enter Tryd.func59, Tryd.ntmps59
    go_wp2_with fail
    go_ret
    exact ⟨ret_s (by rw [digs_lo (by omega), Nat.mod_eq_of_lt (by omega)]), (Below.refl _ _).alloc (Nat.le_refl _) _⟩
  | succ k ih =>
    intro n w hk h0 h1
    have ho := one_byte w (48 + n % 10) (digit (n.toNat % 10)) (by have := digit_dec n.toNat; rw [show ((n.toNat : Nat) : Int) = n by omega] at this; exact this)
    by_cases h2 : n < 10
    · clear ih
      go_enter Tryd.func59, Tryd.ntmps59
      go_wp2_with fail
      go_ret
      exact ⟨ret_s (by rw [digs_lo (by omega), Nat.mod_eq_of_lt (by omega)]), (Below.refl _ _).alloc (Nat.le_refl _) _⟩
    · have IH := Lib.hid ih
      clear ih
      have hl := digs_len (b := 10) (by omega) 19 (n / 10).toNat (by have : (10 : Nat) ^ 20 = 100000000000000000000 := by decide
                                                                     omega)
      go_enter Tryd.func59, Tryd.ntmps59
      go_wp2_with fail
      refine (IH.out (n / 10) _ (by omega) (by omega) (by omega)).mono ?_
      rintro e w' ⟨rfl, hb⟩
      go_wp2_with fail
      go_ret
      have HF : digs 10 n.toNat = digs 10 (n / 10).toNat ++ [digit (n.toNat % 10)] := by
        have := digs_hi (b := 10) (n := n.toNat) (by omega) (by omega)
        rw [show n.toNat / 10 = (n / 10).toNat by omega] at this
        exact this
      exact ⟨by rw [HF, ← ByteArray.mk_append_mk]; rfl, ((Below.refl _ _).alloc (Nat.le_refl _) _).trans (hb.mono (by simp))⟩
theorem rtext_any (n : Int) (w : World) (h0 : -9223372036854775808 ≤ n) (h1 : n ≤ 9223372036854775807) :
    Calls Tryd.prog 52 #[.int .i64 n] w fun e w' => e = .returned (.string ⟨(text n).toArray⟩) ∧ Below w.heap.size w w' := by
  have hl := digs_len (b := 10) (by omega) 19 n.natAbs (by have : (10 : Nat) ^ 20 = 100000000000000000000 := by decide
                                                           omega)
  have ha : n.natAbs ≤ 9223372036854775808 := by omega
  by_cases h : n < 0
  · go_enter Tryd.func52, Tryd.ntmps52
    go_wp2_with fail
    refine (rsize_any _ _ h0 h1).mono ?_
    rintro e w' ⟨rfl, rfl⟩
    go_wp2_with fail
    refine (digits_any n.natAbs _ _ (by omega) (by omega) (by omega)).mono ?_
    rintro e w' ⟨rfl, hb⟩
    rw [Int.toNat_natCast]
    go_wp2
    go_ret
    exact ⟨cat_s (a := [45]) (by unfold text; rw [if_pos h]; rfl), hb⟩
  · go_enter Tryd.func52, Tryd.ntmps52
    go_wp2_with fail
    refine (rsize_any _ _ h0 h1).mono ?_
    rintro e w' ⟨rfl, rfl⟩
    go_wp2_with fail
    refine (digits_any n.natAbs _ _ (by omega) (by omega) (by omega)).mono ?_
    rintro e w' ⟨rfl, hb⟩
    rw [Int.toNat_natCast]
    go_wp2
    go_ret
    exact ⟨ret_s (by unfold text; rw [if_neg (by omega)]), hb⟩
end Go.Proofs.YtokbifndhkijiaaDoor.Dec
