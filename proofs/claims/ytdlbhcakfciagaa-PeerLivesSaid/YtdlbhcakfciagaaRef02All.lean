/- Contracts of the document's answers for layer 2. -/
import Derived.Test.YtdlbhcakfciagaaKit
import Derived.Test.YtdlbhcakfciagaaMath
import Derived.Laws.IdiomStrings
namespace Go.Proofs.Ytdlbhcakfciagaa.Dec
set_option maxRecDepth 100000
open Go.ChangeShapes Go.WideShapes Go.ChangeAt Go.RowKit
set_option linter.unusedVariables false
theorem rsize_any (n : Int) (w : World) (h0 : -9223372036854775808 ≤ n) (h1 : n ≤ 9223372036854775807) :
    Calls Try.prog 42 #[.int .i64 n] w fun e w' => e = .returned (.int .u64 (n.natAbs : Nat)) ∧ w = w' := by
  by_cases h : n < 0
  · obtain ⟨m, rfl⟩ : ∃ m : Nat, n = -(m : Int) := ⟨n.natAbs, by omega⟩
    go_enter Try.func42, Try.ntmps42
    go_wp2
    go_ret
    exact ⟨ret_i (by simp; omega), rfl⟩
  · go_enter Try.func42, Try.ntmps42
    go_wp2
    go_ret
    exact ⟨ret_i (by omega), rfl⟩
theorem one_byte (w : World) (x : Int) (c : UInt8) (hx : x = (c.toNat : Int)) :
    (convert 64 9 (.slice (some ⟨w.heap.size, 0, none⟩) 1 1)).run Try.prog (w.alloc (.cells #[.int .u8 x] 5)) = .ok (.string ⟨[c].toArray⟩) (w.alloc (.cells #[.int .u8 x] 5)) := by
  refine run_convert_bytes_back (P := Try.prog) (w.alloc (.cells #[.int .u8 x] 5)) 64 9 5 ⟨w.heap.size, 0, none⟩ 1 [c] Try.underlying64 Try.underlying5 Try.underlying9 ?_
  intro j hj
  obtain rfl : j = 0 := by simp at hj; exact hj
  subst hx
  rw [show (⟨w.heap.size, 0, none⟩ : Addr).add 0 = ⟨w.heap.size, 0, none⟩ from rfl, World.cell?_alloc_mark]
  rfl
theorem digit_dec (n : Nat) : (48 + (n : Int) % 10) = ((digit (n % 10)).toNat : Int) := by
  have h : n % 10 < 10 := Nat.mod_lt _ (by omega)
  have : ∀ d : Fin 10, (digit d.val).toNat = 48 + d.val := by decide
  have := this ⟨n % 10, h⟩
  simp only [] at this
  omega
theorem digits_any (k : Nat) : ∀ (n : Int) (w : World), n ≤ k → 0 ≤ n → n ≤ 18446744073709551615 →
    Calls Try.prog 41 #[.int .u64 n] w fun e w' => e = .returned (.string ⟨(digs 10 n.toNat).toArray⟩) ∧ Below w.heap.size w w' := by
  induction k with
  | zero =>
    intro n w hk h0 h1
    have h2 : n < 10 := by omega
    have ho := one_byte w (48 + n % 10) (digit (n.toNat % 10)) (by have := digit_dec n.toNat; rw [show ((n.toNat : Nat) : Int) = n by omega] at this; exact this)
    go_enter Try.func41, Try.ntmps41
    go_wp2_with fail
    go_ret
    exact ⟨ret_s (by rw [digs_lo (by omega), Nat.mod_eq_of_lt (by omega)]), (Below.refl _ _).alloc (Nat.le_refl _) _⟩
  | succ k ih =>
    intro n w hk h0 h1
    have ho := one_byte w (48 + n % 10) (digit (n.toNat % 10)) (by have := digit_dec n.toNat; rw [show ((n.toNat : Nat) : Int) = n by omega] at this; exact this)
    by_cases h2 : n < 10
    · clear ih
      go_enter Try.func41, Try.ntmps41
      go_wp2_with fail
      go_ret
      exact ⟨ret_s (by rw [digs_lo (by omega), Nat.mod_eq_of_lt (by omega)]), (Below.refl _ _).alloc (Nat.le_refl _) _⟩
    · have IH := Lib.hid ih
      clear ih
      have hl := digs_len (b := 10) (by omega) 19 (n / 10).toNat (by have : (10 : Nat) ^ 20 = 100000000000000000000 := by decide
                                                                     omega)
      go_enter Try.func41, Try.ntmps41
      go_wp2_with fail
      refine (IH.out (n / 10) _ (by omega) (by omega) (by omega)).mono ?_
      rintro e w' ⟨rfl, hb⟩
      go_wp2_with fail
      go_ret
      have HF : digs 10 n.toNat = digs 10 (n / 10).toNat ++ [digit (n.toNat % 10)] := by
        have := digs_hi (b := 10) (n := n.toNat) (by omega) (by omega)
        rw [show n.toNat / 10 = (n / 10).toNat by omega] at this
        exact this
      exact ⟨by rw [HF, ← ByteArray.mk_append_mk]; rfl, ((Below.refl _ _).alloc (Nat.le_refl _) _).trans (hb.mono (by simp))⟩
theorem rtext_any (n : Int) (w : World) (h0 : -9223372036854775808 ≤ n) (h1 : n ≤ 9223372036854775807) :
    Calls Try.prog 31 #[.int .i64 n] w fun e w' => e = .returned (.string ⟨(text n).toArray⟩) ∧ Below w.heap.size w w' := by
  have hl := digs_len (b := 10) (by omega) 19 n.natAbs (by have : (10 : Nat) ^ 20 = 100000000000000000000 := by decide
                                                           omega)
  have ha : n.natAbs ≤ 9223372036854775808 := by omega
  by_cases h : n < 0
  · go_enter Try.func31, Try.ntmps31
    go_wp2_with fail
    refine (rsize_any _ _ h0 h1).mono ?_
    rintro e w' ⟨rfl, rfl⟩
    go_wp2_with fail
    refine (digits_any n.natAbs _ _ (by omega) (by omega) (by omega)).mono ?_
    rintro e w' ⟨rfl, hb⟩
    rw [Int.toNat_natCast]
    go_wp2
    go_ret
    exact ⟨cat_s (a := [45]) (by unfold text; rw [if_pos h]; rfl), hb⟩
  · go_enter Try.func31, Try.ntmps31
    go_wp2_with fail
    refine (rsize_any _ _ h0 h1).mono ?_
    rintro e w' ⟨rfl, rfl⟩
    go_wp2_with fail
    refine (digits_any n.natAbs _ _ (by omega) (by omega) (by omega)).mono ?_
    rintro e w' ⟨rfl, hb⟩
    rw [Int.toNat_natCast]
    go_wp2
    go_ret
    exact ⟨ret_s (by unfold text; rw [if_neg (by omega)]), hb⟩
end Go.Proofs.Ytdlbhcakfciagaa.Dec
/- Contracts of the document's answers for layer 2: what is read. -/
namespace Go.Proofs.Ytdlbhcakfciagaa.Dec
set_option maxRecDepth 100000
open Go.ChangeShapes Go.WideShapes Go.ChangeAt Go.RowKit
set_option linter.unusedVariables false
def ParseEnd (l : List UInt8) (most : Int) (w : World) (e : Ending) (w' : World) : Prop := e = .returned (.tuple #[.int .i64 (parN l most), .bool (parB l most)]) ∧ Below w.heap.size w w'
theorem parseEnd_no {l : List UInt8} {most : Int} {w w' : World} {e : Ending} (h : parB l most = false) (he : e = .returned (.tuple #[.int .i64 0, .bool false])) (hb : Below w.heap.size w w') : ParseEnd l most w e w' :=
  ⟨by rw [parN_no h, h]; exact he, hb⟩
theorem parseEnd_yes {l : List UInt8} {most : Int} {w w' : World} {e : Ending} (h : parB l most = true) (he : e = .returned (.tuple #[.int .i64 (valb 10 l : Nat), .bool true])) (hb : Below w.heap.size w w') : ParseEnd l most w e w' :=
  ⟨by rw [parN_of h, h]; exact he, hb⟩
end Go.Proofs.Ytdlbhcakfciagaa.Dec
/- Contract of the document's answers for layer 2: where a byte stands. -/
namespace Go.Proofs.Ytdlbhcakfciagaa.Dec
set_option maxRecDepth 100000
open Go.ChangeShapes Go.WideShapes Go.ChangeAt Go.RowKit
set_option linter.unusedVariables false
/-- Where a byte stands first; -1 if nowhere. -/
def placeI (l : List UInt8) (c : UInt8) : Int := if c ∈ l then (l.idxOf c : Int) else -1
theorem placeI_at (s : ByteArray) (c : UInt8) (k : Nat) (h : k < s.size) (hn : ¬ c ∈ s.data.toList.take k) (hc : s[k] = c) : placeI s.data.toList c = k := by
  have e : s.data.toList = s.data.toList.take k ++ s.data.toList.drop k := (List.take_append_drop _ _).symm
  have hd : s.data.toList.drop k = c :: s.data.toList.drop (k + 1) := by
    rw [List.drop_eq_getElem_cons (by rw [len_size]; exact h), byte_get s k h, hc]
  unfold placeI
  have hm : c ∈ s.data.toList := by rw [← hc]; exact byte_mem s k h
  rw [if_pos hm]
  have : s.data.toList.idxOf c = k := by
    rw [e, List.idxOf_append, if_neg hn, hd]
    simp
    have := len_size s
    omega
  omega
end Go.Proofs.Ytdlbhcakfciagaa.Dec
/- Contracts of the document's answers for layer 2: base 16. -/
namespace Go.Proofs.Ytdlbhcakfciagaa.Dec
set_option maxRecDepth 100000
open Go.ChangeShapes Go.WideShapes Go.ChangeAt Go.RowKit
set_option linter.unusedVariables false
def lowI (c : UInt8) : Int := if dv c < 16 ∧ ¬ (65 ≤ c.toNat ∧ c.toNat ≤ 70) then dv c else -1
def upI (c : UInt8) : Int := if dv c < 16 ∧ ¬ (97 ≤ c.toNat ∧ c.toNat ≤ 102) then dv c else -1
theorem byteAll (P : UInt8 → Prop) (h : ∀ d : Fin 256, P (UInt8.ofNat d.val)) (c : UInt8) : P c := by
  have h1 := h ⟨c.toNat, c.toNat_lt⟩
  simp only [UInt8.ofNat_toNat] at h1
  exact h1
theorem place_low (c : UInt8) : placeI [48, 49, 50, 51, 52, 53, 54, 55, 56, 57, 97, 98, 99, 100, 101, 102] c = lowI c :=
  byteAll (fun c => placeI [48, 49, 50, 51, 52, 53, 54, 55, 56, 57, 97, 98, 99, 100, 101, 102] c = lowI c) (by decide +kernel) c
theorem place_up (c : UInt8) : placeI [48, 49, 50, 51, 52, 53, 54, 55, 56, 57, 65, 66, 67, 68, 69, 70] c = upI c :=
  byteAll (fun c => placeI [48, 49, 50, 51, 52, 53, 54, 55, 56, 57, 65, 66, 67, 68, 69, 70] c = upI c) (by decide +kernel) c
theorem low_yes {c : UInt8} (h : 0 ≤ lowI c) : lowI c = dv c ∧ dv c < 16 := by
  unfold lowI at h ⊢
  by_cases h1 : dv c < 16 ∧ ¬ (65 ≤ c.toNat ∧ c.toNat ≤ 70)
  · rw [if_pos h1]; exact ⟨rfl, h1.1⟩
  · rw [if_neg h1] at h; omega
theorem up_yes {c : UInt8} (h : 0 ≤ upI c) : upI c = dv c ∧ dv c < 16 := by
  unfold upI at h ⊢
  by_cases h1 : dv c < 16 ∧ ¬ (97 ≤ c.toNat ∧ c.toNat ≤ 102)
  · rw [if_pos h1]; exact ⟨rfl, h1.1⟩
  · rw [if_neg h1] at h; omega
theorem none_yes {c : UInt8} (h : lowI c < 0) (h2 : upI c < 0) : 16 ≤ dv c := by
  unfold lowI at h; unfold upI at h2
  by_cases h3 : 16 ≤ dv c
  · exact h3
  · by_cases h4 : 65 ≤ c.toNat ∧ c.toNat ≤ 70
    · rw [if_pos ⟨by omega, by omega⟩] at h2; omega
    · rw [if_pos ⟨by omega, h4⟩] at h; omega
theorem fig_slice (d : Int) (h0 : 0 ≤ d) (hd : d < 16) (W : World) : (Instr.slice 9 (.string ⟨#[48, 49, 50, 51, 52, 53, 54, 55, 56, 57, 97, 98, 99, 100, 101, 102]⟩) (some (.int .i64 d)) (some (.int .i64 (d + 1))) none).run Try.prog W = .ok (.string ⟨[digit d.toNat].toArray⟩) W := by
  have h : ∀ d : Fin 16, (⟨#[48, 49, 50, 51, 52, 53, 54, 55, 56, 57, 97, 98, 99, 100, 101, 102]⟩ : ByteArray).extract d.val (d.val + 1) = ⟨[digit d.val].toArray⟩ := by decide +kernel
  have := h ⟨d.toNat, by omega⟩
  simp only [] at this
  have hz : (⟨#[48, 49, 50, 51, 52, 53, 54, 55, 56, 57, 97, 98, 99, 100, 101, 102]⟩ : ByteArray).size = 16 := rfl
  rw [run_slice_string _ _ _ _ _ _ _ Try.underlying9 h0 (by omega) (by rw [hz]; omega)]
  rw [show (d + 1).toNat = d.toNat + 1 by omega, this]
theorem rhex_any (k : Nat) : ∀ (n : Int) (w : World), n ≤ k → 0 ≤ n → n ≤ 65535 →
    Calls Try.prog 60 #[.int .i64 n] w fun e w' => e = .returned (.string ⟨(digs 16 n.toNat).toArray⟩) ∧ ∃ q, w' = w.drewN q := by
  induction k with
  | zero =>
    intro n w hk h0 h1
    have hf := fig_slice n h0 (by omega) w
    have h2 : n < 16 := by omega
    go_enter Try.func60, Try.ntmps60
    go_wp2
    go_ret
    exact ⟨ret_s (by rw [digs_lo (by omega)]), 0, rfl⟩
  | succ k ih =>
    intro n w hk h0 h1
    by_cases h2 : n < 16
    · clear ih
      have hf := fig_slice n h0 h2 w
      go_enter Try.func60, Try.ntmps60
      go_wp2
      go_ret
      exact ⟨ret_s (by rw [digs_lo (by omega)]), 0, rfl⟩
    · have IH := Lib.hid ih
      clear ih
      have q1 : IntKind.i64.wrap (n.tdiv 16) = n / 16 := by rw [Int.tdiv_eq_ediv_of_nonneg h0, IntWalk.i64_in _ (by omega)]
      have q2 : n.tmod 16 = n % 16 := Int.tmod_eq_emod_of_nonneg h0
      have hfs := fun W => fig_slice (n % 16) (by omega) (by omega) W
      have hl := digs_len (b := 16) (by omega) 3 (n / 16).toNat (by simp; omega)
      have q3 : IntKind.i64.wrap (n % 16 + 1) = n % 16 + 1 := IntWalk.i64_in _ (by omega)
      go_enter Try.func60, Try.ntmps60
      go_wp2
      go_quiet ((go_at_call 60; exact Calls.quiet_of (IH.out (n / 16) _ (by omega) (by omega) (by omega))))
      go_wp2
      go_ret
      have HF : digs 16 n.toNat = digs 16 (n / 16).toNat ++ [digit (n % 16).toNat] := by
        have := digs_hi (b := 16) (n := n.toNat) (by omega) (by omega)
        rw [show n.toNat / 16 = (n / 16).toNat by omega, show n.toNat % 16 = (n % 16).toNat by omega] at this
        exact this
      exact ⟨cat_s HF.symm, _, rfl⟩
theorem rhexAll_any (n : Int) (w : World) (h0 : -9223372036854775808 ≤ n) (h1 : n ≤ 9223372036854775807) :
    Calls Try.prog 60 #[.int .i64 n] w fun e w' => e = .returned (.string ⟨(hex n).toArray⟩) ∧ ∃ q, w' = w.drewN q := by
  by_cases h : n < 0
  · go_enter Try.func60, Try.ntmps60
    go_wp2_with fail
    go_ret
    exact ⟨by unfold hex; rw [if_pos (Or.inl h)]; rfl, 0, rfl⟩
  · by_cases h2 : n > 65535
    · go_enter Try.func60, Try.ntmps60
      go_wp2_with fail
      go_ret
      exact ⟨by unfold hex; rw [if_pos (Or.inr h2)]; rfl, 0, rfl⟩
    · refine (rhex_any n.toNat n w (by omega) (by omega) (by omega)).mono ?_
      rintro e w' ⟨rfl, hq⟩
      exact ⟨ret_s (by unfold hex; rw [if_neg (by omega)]; congr 1; omega), hq⟩
end Go.Proofs.Ytdlbhcakfciagaa.Dec
