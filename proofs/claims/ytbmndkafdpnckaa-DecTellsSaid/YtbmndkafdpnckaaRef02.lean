/- Contracts of the document's answers for layer 2. -/
import Derived.Test.YtbmndkafdpnckaaKit
import Derived.Test.YtbmndkafdpnckaaDecMath
import Derived.Laws.IdiomStrings
namespace Go.Proofs.Ytbmndkafdpnckaa.Dec
open Go.ChangeShapes Go.WideShapes Go.ChangeAt Go.RowKit
set_option linter.unusedVariables false
theorem rsize_any (n : Int) (w : World) (h0 : -9223372036854775808 ≤ n) (h1 : n ≤ 9223372036854775807) :
    Calls Try.prog 18 #[.int .i64 n] w fun e w' => e = .returned (.int .u64 (n.natAbs : Nat)) ∧ w = w' := by
  by_cases h : n < 0
  · obtain ⟨m, rfl⟩ : ∃ m : Nat, n = -(m : Int) := ⟨n.natAbs, by omega⟩
    go_enter Try.func18, Try.ntmps18
    go_wp2
    go_ret
    exact ⟨ret_i (by simp; omega), rfl⟩
  · go_enter Try.func18, Try.ntmps18
    go_wp2
    go_ret
    exact ⟨ret_i (by omega), rfl⟩
/-- Where a byte stands first; -1 if nowhere. -/
def placeI (l : List UInt8) (c : UInt8) : Int := if c ∈ l then (l.idxOf c : Int) else -1
theorem placeI_at (s : ByteArray) (c : UInt8) (k : Nat) (h : k < s.size) (hn : ¬ c ∈ s.data.toList.take k) (hc : s[k] = c) : placeI s.data.toList c = k := by
  have e : s.data.toList = s.data.toList.take k ++ s.data.toList.drop k := (List.take_append_drop _ _).symm
  have hd : s.data.toList.drop k = c :: s.data.toList.drop (k + 1) := by
    rw [List.drop_eq_getElem_cons (by rw [len_size]; exact h), byte_get s k h, hc]
  unfold placeI
  have hm : c ∈ s.data.toList := by rw [← hc]; exact byte_mem s k h
  rw [if_pos hm]
  have : s.data.toList.idxOf c = k := by
    rw [e, List.idxOf_append, if_neg hn, hd]
    simp
    have := len_size s
    omega
  omega
theorem place_any (s : ByteArray) (c : UInt8) (w : World) (hs : s.size ≤ 9223372036854775807) :
    Calls Try.prog 19 #[.string s, .int .u8 (c.toNat : Int)] w fun e w' => e = .returned (.int .i64 (placeI s.data.toList c)) ∧ w = w' := by
  go_enter Try.func19, Try.ntmps19
  go_wp2
  go_loop [5] (fun i => ∃ k : Nat, k ≤ s.size ∧ i = .int .i64 k ∧ Hid (¬ c ∈ s.data.toList.take k)) (fun i => s.size - (intOf i).toNat)
  case atStart => exact ⟨0, Nat.zero_le _, rfl, Lib.hid (by simp)⟩
  case round =>
    obtain ⟨k, hk, rfl, HN⟩ := hrel
    by_cases hlt : k < s.size
    · by_cases hc : s[k] = c
      · have E := Lib.hid (placeI_at s c k hlt HN.out hc)
        have hb : ((s[k].toNat : Int) == (c.toNat : Int)) = true := by rw [hc]; simp
        clear hc
        go_wp2
        go_ret
        exact ⟨ret_i E.out.symm, rfl⟩
      · have hb : ((s[k].toNat : Int) == (c.toNat : Int)) = false := by
          rw [beq_eq_false_iff_ne]; intro e
          exact hc (UInt8.toNat_inj.1 (by omega))
        have HN2 : Hid (¬ c ∈ s.data.toList.take (k + 1)) := by
          rw [take_snoc s k hlt]; intro h
          rcases List.mem_append.1 h with h | h
          · exact HN.out h
          · simp at h; exact hc h.symm
        clear hc
        go_wp2
        go_round
        case rel => exact ⟨k + 1, by omega, by go_num, HN2⟩
        case measure => simp [intOf]; omega
    · have E : Hid (placeI s.data.toList c = -1) := by
        have := HN.out
        rw [List.take_of_length_le (by rw [len_size]; omega)] at this
        unfold placeI; exact if_neg this
      go_wp2
      go_ret
      exact ⟨ret_i E.out.symm, rfl⟩
theorem one_byte (w : World) (x : Int) (c : UInt8) (hx : x = (c.toNat : Int)) :
    (convert 35 9 (.slice (some ⟨w.heap.size, 0, none⟩) 1 1)).run Try.prog (w.alloc (.cells #[.int .u8 x] 5)) = .ok (.string ⟨[c].toArray⟩) (w.alloc (.cells #[.int .u8 x] 5)) := by
  refine run_convert_bytes_back (P := Try.prog) (w.alloc (.cells #[.int .u8 x] 5)) 35 9 5 ⟨w.heap.size, 0, none⟩ 1 [c] Try.underlying35 Try.underlying5 Try.underlying9 ?_
  intro j hj
  obtain rfl : j = 0 := by simp at hj; exact hj
  subst hx
  rw [show (⟨w.heap.size, 0, none⟩ : Addr).add 0 = ⟨w.heap.size, 0, none⟩ from rfl, World.cell?_alloc_mark]
  rfl
theorem digit_dec (n : Nat) : (48 + (n : Int) % 10) = ((digit (n % 10)).toNat : Int) := by
  have h : n % 10 < 10 := Nat.mod_lt _ (by omega)
  have : ∀ d : Fin 10, (digit d.val).toNat = 48 + d.val := by decide
  have := this ⟨n % 10, h⟩
  simp only [] at this
  omega
theorem digits_any (k : Nat) : ∀ (n : Int) (w : World), n ≤ k → 0 ≤ n → n ≤ 18446744073709551615 →
    Calls Try.prog 16 #[.int .u64 n] w fun e w' => e = .returned (.string ⟨(digs 10 n.toNat).toArray⟩) ∧ Below w.heap.size w w' := by
  induction k with
  | zero =>
    intro n w hk h0 h1
    have h2 : n < 10 := by omega
    have ho := one_byte w (48 + n % 10) (digit (n.toNat % 10)) (by have := digit_dec n.toNat; rw [show ((n.toNat : Nat) : Int) = n by omega] at this; exact this)
    go_enter Try.func16, Try.ntmps16
    go_wp2_with fail
    go_ret
    exact ⟨ret_s (by rw [digs_lo (by omega), Nat.mod_eq_of_lt (by omega)]), (Below.refl _ _).alloc (Nat.le_refl _) _⟩
  | succ k ih =>
    intro n w hk h0 h1
    have ho := one_byte w (48 + n % 10) (digit (n.toNat % 10)) (by have := digit_dec n.toNat; rw [show ((n.toNat : Nat) : Int) = n by omega] at this; exact this)
    by_cases h2 : n < 10
    · clear ih
      go_enter Try.func16, Try.ntmps16
      go_wp2_with fail
      go_ret
      exact ⟨ret_s (by rw [digs_lo (by omega), Nat.mod_eq_of_lt (by omega)]), (Below.refl _ _).alloc (Nat.le_refl _) _⟩
    · have IH := Lib.hid ih
      clear ih
      have hl := digs_len (b := 10) (by omega) 19 (n / 10).toNat (by have : (10 : Nat) ^ 20 = 100000000000000000000 := by decide
                                                                     omega)
      go_enter Try.func16, Try.ntmps16
      go_wp2_with fail
      refine (IH.out (n / 10) _ (by omega) (by omega) (by omega)).mono ?_
      rintro e w' ⟨rfl, hb⟩
      go_wp2_with fail
      go_ret
      have HF : digs 10 n.toNat = digs 10 (n / 10).toNat ++ [digit (n.toNat % 10)] := by
        have := digs_hi (b := 10) (n := n.toNat) (by omega) (by omega)
        rw [show n.toNat / 10 = (n / 10).toNat by omega] at this
        exact this
      exact ⟨by rw [HF, ← ByteArray.mk_append_mk]; rfl, ((Below.refl _ _).alloc (Nat.le_refl _) _).trans (hb.mono (by simp))⟩
theorem rtext_any (n : Int) (w : World) (h0 : -9223372036854775808 ≤ n) (h1 : n ≤ 9223372036854775807) :
    Calls Try.prog 9 #[.int .i64 n] w fun e w' => e = .returned (.string ⟨(text n).toArray⟩) ∧ Below w.heap.size w w' := by
  have hl := digs_len (b := 10) (by omega) 19 n.natAbs (by have : (10 : Nat) ^ 20 = 100000000000000000000 := by decide
                                                           omega)
  have ha : n.natAbs ≤ 9223372036854775808 := by omega
  by_cases h : n < 0
  · go_enter Try.func9, Try.ntmps9
    go_wp2_with fail
    refine (rsize_any _ _ h0 h1).mono ?_
    rintro e w' ⟨rfl, rfl⟩
    go_wp2_with fail
    refine (digits_any n.natAbs _ _ (by omega) (by omega) (by omega)).mono ?_
    rintro e w' ⟨rfl, hb⟩
    rw [Int.toNat_natCast]
    go_wp2
    go_ret
    exact ⟨cat_s (a := [45]) (by unfold text; rw [if_pos h]; rfl), hb⟩
  · go_enter Try.func9, Try.ntmps9
    go_wp2_with fail
    refine (rsize_any _ _ h0 h1).mono ?_
    rintro e w' ⟨rfl, rfl⟩
    go_wp2_with fail
    refine (digits_any n.natAbs _ _ (by omega) (by omega) (by omega)).mono ?_
    rintro e w' ⟨rfl, hb⟩
    rw [Int.toNat_natCast]
    go_wp2
    go_ret
    exact ⟨ret_s (by unfold text; rw [if_neg (by omega)]), hb⟩
end Go.Proofs.Ytbmndkafdpnckaa.Dec
