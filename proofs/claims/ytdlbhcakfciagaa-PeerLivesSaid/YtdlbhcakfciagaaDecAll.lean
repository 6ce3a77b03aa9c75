/- Contracts of package dec and of its document's answers. -/
import Derived.Test.YtdlbhcakfciagaaKit
import Derived.Test.YtdlbhcakfciagaaMath
import Derived.Deep.OwnRows
import Derived.Laws.IdiomStrings
namespace Go.Proofs.Ytdlbhcakfciagaa.Dec
set_option maxRecDepth 100000
open Go.ChangeShapes Go.WideShapes Go.ChangeAt Go.RowKit
set_option linter.unusedVariables false
end Go.Proofs.Ytdlbhcakfciagaa.Dec
/- Contracts of package dec: texts. -/
namespace Go.Proofs.Ytdlbhcakfciagaa.Dec
set_option maxRecDepth 100000
open Go.ChangeShapes Go.WideShapes Go.ChangeAt Go.RowKit
set_option linter.unusedVariables false
def byteV (c : UInt8) : Value := .int .u8 (c.toNat : Int)
theorem figs_get (d : Nat) (h : d < 16) : ((⟨#[48, 49, 50, 51, 52, 53, 54, 55, 56, 57, 97, 98, 99, 100, 101, 102]⟩ : ByteArray)[d]'h) = digit d := by
  have : ∀ d : Fin 16, ((⟨#[48, 49, 50, 51, 52, 53, 54, 55, 56, 57, 97, 98, 99, 100, 101, 102]⟩ : ByteArray)[d.val]'d.isLt) = digit d.val := by decide
  exact this ⟨d, h⟩
/-- c digits are written, from place p on; m is left. -/
def WI (b n c p m : Nat) (suf : List UInt8) (f : Nat → Value) : Prop :=
  suf.length = c ∧ (∀ j (hj : j < suf.length), f (p + j) = byteV suf[j]) ∧ digs b n = digs b m ++ suf ∧ (c = 0 ∨ 1 ≤ m) ∧ m * b ^ c ≤ n
theorem WI.cells {b n c q m : Nat} {suf : List UInt8} {f : Nat → Value} {d : UInt8} (h : WI b n c (q + 1) m suf f) : ∀ j (hj : j < (d :: suf).length), (fun j => if j = q then byteV d else f j) (q + j) = byteV (d :: suf)[j] := by
  intro j hj
  cases j with
  | zero => simp
  | succ j =>
    have := h.2.1 j (by simpa using hj)
    have e : q + 1 + j = q + (j + 1) := by omega
    rw [e] at this
    simp only [List.getElem_cons_succ]
    rw [if_neg (by omega), this]
theorem WI.next {b n c q m : Nat} {suf : List UInt8} {f : Nat → Value} (h : WI b n c (q + 1) m suf f) (hb : 2 ≤ b) (hm : b ≤ m) :
    WI b n (c + 1) q (m / b) (digit (m % b) :: suf) (fun j => if j = q then byteV (digit (m % b)) else f j) := by
  obtain ⟨h1, h2, h3, h4, h5⟩ := h
  refine ⟨by simp [h1], WI.cells ⟨h1, h2, h3, h4, h5⟩, ?_, Or.inr (Nat.div_pos hm (by omega)), ?_⟩
  · rw [h3, digs_hi hb hm]; simp
  · have : m / b * b ≤ m := Nat.div_mul_le_self m b
    have := Nat.mul_le_mul_right (b ^ c) this
    rw [Nat.pow_succ, Nat.mul_comm (b ^ c) b, ← Nat.mul_assoc]; omega
theorem WI.last {b n c q m : Nat} {suf : List UInt8} {f : Nat → Value} (h : WI b n c (q + 1) m suf f) (hm : m < b) : digs b n = digit (m % b) :: suf := by
  rw [h.2.2.1, digs_lo hm, Nat.mod_eq_of_lt hm]; rfl
theorem WI.full {b n m p : Nat} {suf : List UInt8} {f : Nat → Value} (h : WI b n 20 p m suf f) (hb : 10 ≤ b) (hn : n ≤ 18446744073709551615) : False := by
  obtain ⟨_, _, _, h4, h5⟩ := h
  have h6 : (10 : Nat) ^ 20 ≤ b ^ 20 := Nat.pow_le_pow_left hb 20
  have h7 : (10 : Nat) ^ 20 = 100000000000000000000 := by decide
  have : 1 * b ^ 20 ≤ m * b ^ 20 := Nat.mul_le_mul_right _ (by omega)
  omega
theorem zeros20 (i : Nat) (hi : i < 20) : (#[Value.int .u8 0, .int .u8 0, .int .u8 0, .int .u8 0, .int .u8 0, .int .u8 0, .int .u8 0, .int .u8 0, .int .u8 0, .int .u8 0, .int .u8 0, .int .u8 0, .int .u8 0, .int .u8 0, .int .u8 0, .int .u8 0, .int .u8 0, .int .u8 0, .int .u8 0, .int .u8 0] : Array Value)[i]? = some (.int .u8 0) := by
  have e : (#[Value.int .u8 0, .int .u8 0, .int .u8 0, .int .u8 0, .int .u8 0, .int .u8 0, .int .u8 0, .int .u8 0, .int .u8 0, .int .u8 0, .int .u8 0, .int .u8 0, .int .u8 0, .int .u8 0, .int .u8 0, .int .u8 0, .int .u8 0, .int .u8 0, .int .u8 0, .int .u8 0] : Array Value) = Array.replicate 20 (.int .u8 0) := rfl
  rw [e, Array.getElem?_replicate, if_pos hi]
theorem slice20 (g q : Nat) (hq : q < 20) (W : World) : (Instr.sliceAt 63 (.pointer (some ⟨g, 0, none⟩)) (some (.int .i64 (q : Int))) none none).run Try.prog W = .ok (.slice (some ⟨g, q, none⟩) (20 - q) (20 - q)) W := by
  have e1 : Try.prog.arrayLen 63 = 20 := by kernel_rfl
  have e2 : Try.prog.elem 63 = 5 := by kernel_rfl
  have e3 : (sizeOf 5).run Try.prog W = .ok 1 W := by kernel_rfl
  rw [run_sliceAt_array_l W 63 _ (by rw [e1, e2]; kernel_rfl) .i64 q (by omega) (by rw [e1]; omega), e1, e2, e3]
  simp only [Result.andThen, slicedAt, Int.toNat_natCast]
  rw [if_neg (by omega), Nat.mul_one]
  simp [Addr.add]
  intro h; exact h.symm
set_option maxHeartbeats 1000000 in
theorem write_any (n b : Nat) (w : World) (hn : n ≤ 18446744073709551615) (hb : 10 ≤ b) (hb2 : b ≤ 16) :
    Calls Try.prog 37 #[.int .u64 n, .int .u64 b] w fun e w' => e = .returned (.string ⟨(digs b n).toArray⟩) ∧ Below w.heap.size w w' := by
  go_enter Try.func37, Try.ntmps37
  go_wp2
  go_loopw [6, 0, 7] (fun first v0 i wr => ∃ (c p m : Nat) (suf : List UInt8) (f : Nat → Value), first = .int .i64 p ∧ i = .int .i64 c ∧ v0 = .int .u64 m ∧ c + p ≤ 20 ∧ 20 ≤ c + p ∧ wr.rowIs w.heap.size 63 20 f ∧ Below w.heap.size w wr
      ∧ WI b n c p m suf f ∧ m ≤ 18446744073709551615) (fun _ _ i _ => 20 - (intOf i).toNat)
  case atStart =>
    exact ⟨0, 20, n, [], fun _ => .int .u8 0, rfl, rfl, rfl, by omega, by omega, World.rowIs_alloc _ _ _ _ (fun i hi => zeros20 i hi), (Below.refl _ _).alloc (Nat.le_refl _) _, ⟨rfl, by simp, by simp, Or.inl rfl, by simp⟩, hn⟩
  case round =>
    obtain ⟨c, p, m, suf, f, rfl, rfl, rfl, h1, h2, hrow, hbel, HI, hm⟩ := hrel
    by_cases hlt : c < 20
    · obtain ⟨q, rfl⟩ : ∃ q, p = q + 1 := ⟨p - 1, by omega⟩
      have hcell := hrow.cell (i := q) (by omega)
      have hfro := hrow.frozen q
      have hd : m % b < 16 := Nat.lt_of_lt_of_le (Nat.mod_lt _ (by omega)) hb2
      have hfg := figs_get (m % b) hd
      have hs := hrow.set q (byteV (digit (m % b)))
      have hb3 := hbel.setCell (p := ⟨w.heap.size, q, none⟩) (Nat.le_refl _) (byteV (digit (m % b)))
      unfold byteV at hs hb3
      have hq0 : 0 ≤ (m : Int) / (b : Int) := Int.ediv_nonneg (by omega) (by omega)
      have hq1 : (m : Int) / (b : Int) ≤ 18446744073709551615 := Int.le_trans (Int.ediv_le_self _ (by omega)) (by omega)
      by_cases hz : m < b
      · have hz2 : ((m : Int) / (b : Int) == 0) = true := by rw [beq_iff_eq, Int.ediv_eq_zero_of_lt (by omega) (by omega)]
        have HL := Lib.hid (HI.last hz)
        have hsl := slice20 w.heap.size q (by omega)
        have hlen : (digs b n).length = 20 - q := by rw [HL.out]; simp [HI.1]; omega
        have hcv := run_convert_bytes_back (P := Try.prog) (wr.setCell ⟨w.heap.size, q, none⟩ (Value.int .u8 ((digit (m % b)).toNat : Int))) 64 9 5 ⟨w.heap.size, q, none⟩ (20 - q) (digs b n) Try.underlying64 Try.underlying5 Try.underlying9 (by
          intro j hj
          have hc := HI.cells (d := digit (m % b)) j (by rw [← HL.out]; exact hj)
          have hj2 : q + j < 20 := by rw [hlen] at hj; omega
          have h9 := hs.cell (i := q + j) hj2
          have e9 : (⟨w.heap.size, q, none⟩ : Addr).add j = ⟨w.heap.size, q + j, none⟩ := by unfold Addr.add; split <;> simp_all
          rw [e9, h9]
          have e8 : (digit (m % b) :: suf)[j]'(by rw [← HL.out]; exact hj) = (digs b n)[j] := by congr 1; exact HL.out.symm
          rw [e8] at hc
          exact congrArg some hc)
        rw [hlen] at hcv
        clear hlen
        go_wp2
        go_ret
        exact ⟨rfl, hb3⟩
      · have hq2 : 1 ≤ (m : Int) / (b : Int) := by
          have := Nat.div_pos (show b ≤ m by omega) (by omega)
          omega
        have hz2 : ((m : Int) / (b : Int) == 0) = false := by rw [beq_eq_false_iff_ne]; omega
        have HN := HI.next (by omega) (by omega)
        go_wp2
        go_roundw
        case rel => exact ⟨c + 1, q, m / b, _, _, rfl, by go_num, by simp, by omega, by omega, hs, hb3, HN, by omega⟩
        case measure => simp [intOf]; omega
    · obtain rfl : c = 20 := by omega
      exact (HI.full hb hn).elim
theorem text_any (n : Int) (w : World) (h0 : -9223372036854775808 ≤ n) (h1 : n ≤ 9223372036854775807) :
    Calls Try.prog 26 #[.int .i64 n] w fun e w' => e = .returned (.string ⟨(text n).toArray⟩) ∧ Below w.heap.size w w' := by
  by_cases h : n < 0
  · obtain ⟨m, rfl⟩ : ∃ m : Nat, n = -(m : Int) := ⟨n.natAbs, by omega⟩
    go_enter Try.func26, Try.ntmps26
    go_wp2_with fail
    rw [show IntKind.u64.wrap (-IntKind.u64.wrap (-(m : Int))) = (m : Int) from by rw [IntKind.wrap_u64, IntKind.wrap_u64]; omega]
    refine (write_any m 10 _ (by omega) (by omega) (by omega)).mono ?_
    rintro e w' ⟨rfl, hb⟩
    have hl := digs_len (b := 10) (by omega) 19 m (by have : (10 : Nat) ^ 20 = 100000000000000000000 := by decide
                                                      omega)
    go_wp2
    go_ret
    exact ⟨ret_s (by unfold text; rw [if_pos (by omega)]; simp), hb⟩
  · obtain ⟨m, rfl⟩ := Int.eq_ofNat_of_zero_le (show 0 ≤ n by omega)
    go_enter Try.func26, Try.ntmps26
    go_wp2_with (go_at_call 37; refine (write_any m 10 _ (by omega) (by omega) (by omega)).mono ?_; rintro e w' ⟨rfl, hb⟩)
    go_ret
    exact ⟨ret_s (by unfold text; rw [if_neg (by omega)]; rfl), hb⟩
end Go.Proofs.Ytdlbhcakfciagaa.Dec
/- Contracts of package dec: digits to base 16, written and read. -/
namespace Go.Proofs.Ytdlbhcakfciagaa.Dec
set_option maxRecDepth 100000
open Go.ChangeShapes Go.WideShapes Go.ChangeAt Go.RowKit
set_option linter.unusedVariables false
theorem hex_any (n : Int) (w : World) (h0 : -9223372036854775808 ≤ n) (h1 : n ≤ 9223372036854775807) :
    Calls Try.prog 57 #[.int .i64 n] w fun e w' => e = .returned (.string ⟨(hex n).toArray⟩) ∧ Below w.heap.size w w' := by
  by_cases h : n < 0
  · go_enter Try.func57, Try.ntmps57
    go_wp2
    go_ret
    exact ⟨by unfold hex; rw [if_pos (Or.inl h)]; rfl, Below.refl _ _⟩
  · by_cases h2 : n > 65535
    · go_enter Try.func57, Try.ntmps57
      go_wp2
      go_ret
      exact ⟨by unfold hex; rw [if_pos (Or.inr h2)]; rfl, Below.refl _ _⟩
    · obtain ⟨m, rfl⟩ := Int.eq_ofNat_of_zero_le (show 0 ≤ n by omega)
      go_enter Try.func57, Try.ntmps57
      go_wp2_with (go_at_call 37; refine (write_any m 16 _ (by omega) (by omega) (by omega)).mono ?_; rintro e w' ⟨rfl, hb⟩)
      go_ret
      exact ⟨ret_s (by unfold hex; rw [if_neg (by omega)]; rfl), hb⟩
end Go.Proofs.Ytdlbhcakfciagaa.Dec
