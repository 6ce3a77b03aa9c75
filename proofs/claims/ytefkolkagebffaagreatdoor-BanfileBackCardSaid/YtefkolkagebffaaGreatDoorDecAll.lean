/- Contracts of package dec and of its document's answers. -/
import Derived.Test.YtefkolkagebffaaGreatDoorKit
import Derived.Test.YtefkolkagebffaaGreatDoorMath
import Derived.Deep.OwnRows
import Derived.Laws.IdiomStrings
namespace Go.Proofs.YtefkolkagebffaaGreatDoor.Dec
set_option maxRecDepth 100000
open Go.ChangeShapes Go.WideShapes Go.ChangeAt Go.RowKit
set_option linter.unusedVariables false
theorem value_any (c : UInt8) (w : World) : Calls Tryz.prog 55 #[.int .u8 (c.toNat : Int)] w fun e w' => e = .returned (.int .i64 (dv c : Nat)) ∧ w = w' := by
  have hb : c.toNat < 256 := c.toNat_lt
  by_cases h1 : 48 ≤ c.toNat <;> by_cases h2 : c.toNat ≤ 57 <;> by_cases h3 : 97 ≤ c.toNat <;> by_cases h4 : c.toNat ≤ 102 <;> by_cases h5 : 65 ≤ c.toNat <;> by_cases h6 : c.toNat ≤ 70
  all_goals first
    | (exfalso; omega)
    | (go_enter Tryz.func55, Tryz.ntmps55
       go_wp2
       go_ret
       exact ⟨ret_i (by unfold dv; simp only [h1, h2, h3, h4, h5, h6]; simp; try omega), rfl⟩)
theorem parse_empty (s : ByteArray) (most : Int) (w : World) (hz : s.size = 0) :
    Calls Tryz.prog 31 #[.string s, .int .i64 most] w fun e w' => e = .returned (.tuple #[.int .i64 (parN s.data.toList most), .bool (parB s.data.toList most)]) ∧ w = w' := by
  have e0 : s.toList = [] := by rw [ByteArray.toList_eq]; exact List.eq_nil_of_length_eq_zero (by rw [len_size]; exact hz)
  have e1 : parB s.data.toList most = false := parB_nil most (List.eq_nil_of_length_eq_zero (by rw [len_size]; exact hz))
  have E1 := Lib.hid e1
  have E2 := Lib.hid (parN_no e1)
  clear e1 hz
  go_enter Tryz.func31, Tryz.ntmps31
  go_wp2
  go_ret2
  exact ⟨ret_ib E2.out.symm E1.out.symm, rfl⟩
theorem parse_zero (s : ByteArray) (most : Int) (w : World) (hz : 1 < s.size) (h0 : s[0]'(by omega) = 48) (hs : s.size ≤ 9223372036854775807) :
    Calls Tryz.prog 31 #[.string s, .int .i64 most] w fun e w' => e = .returned (.tuple #[.int .i64 (parN s.data.toList most), .bool (parB s.data.toList most)]) ∧ w = w' := by
  have hne : s.data.toList ≠ [] := by intro e; have := len_size s; rw [e] at this; simp at this; omega
  have e1 : parB s.data.toList most = false := parB_zero most (by rw [len_size]; exact hz) (by rw [head_byte s (by omega), h0])
  have E1 := Lib.hid e1
  have E2 := Lib.hid (parN_no e1)
  have e0 : (s.toList == []) = false := by rw [ByteArray.toList_eq]; simpa using hne
  have e2 : s.toList.isEmpty = false := by rw [ByteArray.toList_eq]; simpa using hne
  have hb : (((s[0]'(by omega)).toNat : Int) == 48) = true := by rw [h0]; rfl
  clear e1 h0 hne
  go_enter Tryz.func31, Tryz.ntmps31
  go_wp2
  go_ret2
  exact ⟨ret_ib E2.out.symm E1.out.symm, rfl⟩
set_option maxHeartbeats 2000000 in
theorem parse_neg (s : ByteArray) (most : Int) (w : World) (hz : 1 ≤ s.size) (h0 : s.size = 1 ∨ s[0]'(by omega) ≠ 48) (hs : s.size ≤ 9223372036854775807) (hm : most < 0) (hm2 : -9223372036854775808 ≤ most) :
    Calls Tryz.prog 31 #[.string s, .int .i64 most] w fun e w' => e = .returned (.tuple #[.int .i64 (parN s.data.toList most), .bool (parB s.data.toList most)]) ∧ w = w' := by
  have hne : s.data.toList ≠ [] := by intro e; have := len_size s; rw [e] at this; simp at this; omega
  have e0 : (s.toList == []) = false := by rw [ByteArray.toList_eq]; simpa using hne
  have e2 : s.toList.isEmpty = false := by rw [ByteArray.toList_eq]; simpa using hne
  have hb : 1 < s.size → (((s[0]'(by omega)).toNat : Int) == 48) = false := by
    intro h
    have h1 : s[0]'(by omega) ≠ 48 := by rcases h0 with h0 | h0; omega; exact h0
    rw [beq_eq_false_iff_ne]; intro e
    exact h1 (UInt8.toNat_inj.1 (by have : (48 : UInt8).toNat = 48 := rfl; omega))
  have e1 : parB s.data.toList most = false := parB_over 0 (by simp [valb]; omega)
  have E1 := Lib.hid e1
  have E2 := Lib.hid (parN_no e1)
  have ht : most.tdiv 10 ≤ 0 := by
    obtain ⟨n, rfl⟩ : ∃ n : Nat, most = -(n : Int) := ⟨most.natAbs, by omega⟩
    rw [Int.neg_tdiv]
    have := Int.tdiv_nonneg (a := (n : Int)) (b := 10) (by omega) (by omega)
    omega
  clear h0 hne e1
  by_cases h1 : 1 < s.size
  all_goals
    try have hb := hb h1
    go_enter Tryz.func31, Tryz.ntmps31
    go_wp2
    go_loop [6, 23] (fun n i => i = .int .i64 0 ∧ n = .int .i64 0) (fun _ _ => 0)
    case atStart => exact ⟨rfl, rfl⟩
    case round =>
      obtain ⟨rfl, rfl⟩ := hrel
      have hd := dv_le s[0]
      by_cases c1 : 10 ≤ dv s[0]
      · go_wp2_with (go_at_call 55; refine (value_any _ _).mono ?_; rintro e w' ⟨rfl, rfl⟩)
        go_ret2
        exact ⟨ret_ib E2.out.symm E1.out.symm, rfl⟩
      · by_cases c2 : 0 > most.tdiv 10
        · go_wp2_with (go_at_call 55; refine (value_any _ _).mono ?_; rintro e w' ⟨rfl, rfl⟩)
          go_ret2
          exact ⟨ret_ib E2.out.symm E1.out.symm, rfl⟩
        · go_wp2_with (go_at_call 55; refine (value_any _ _).mono ?_; rintro e w' ⟨rfl, rfl⟩)
          go_ret2
          exact ⟨ret_ib E2.out.symm E1.out.symm, rfl⟩
set_option maxHeartbeats 2000000 in
theorem parse_run (s : ByteArray) (most : Int) (w : World) (hz : 1 ≤ s.size) (h0 : s.size = 1 ∨ s[0]'(by omega) ≠ 48) (hs : s.size ≤ 9223372036854775807) (hm : 0 ≤ most) (hm2 : most ≤ 9223372036854775807) :
    Calls Tryz.prog 31 #[.string s, .int .i64 most] w fun e w' => e = .returned (.tuple #[.int .i64 (parN s.data.toList most), .bool (parB s.data.toList most)]) ∧ w = w' := by
  have hne : s.data.toList ≠ [] := by intro e; have := len_size s; rw [e] at this; simp at this; omega
  have e0 : (s.toList == []) = false := by rw [ByteArray.toList_eq]; simpa using hne
  have e2 : s.toList.isEmpty = false := by rw [ByteArray.toList_eq]; simpa using hne
  have H0 : Hid (s.data.toList.length ≤ 1 ∨ s.data.toList.head? ≠ some 48) := by
    rcases h0 with h0 | h0
    · left; rw [len_size]; omega
    · right; rw [head_byte s (by omega)]; intro e; injection e with e; exact h0 e
  have hb : 1 < s.size → (((s[0]'(by omega)).toNat : Int) == 48) = false := by
    intro h
    have h1 : s[0]'(by omega) ≠ 48 := by rcases h0 with h0 | h0; omega; exact h0
    rw [beq_eq_false_iff_ne]; intro e
    exact h1 (UInt8.toNat_inj.1 (by have : (48 : UInt8).toNat = 48 := rfl; omega))
  clear h0 hne
  by_cases h1 : 1 < s.size
  all_goals
    try have hb := hb h1
    go_enter Tryz.func31, Tryz.ntmps31
    go_wp2
    go_loop [6, 23] (fun n i => ∃ k v : Nat, k ≤ s.size ∧ i = .int .i64 k ∧ n = .int .i64 v ∧ (v : Int) ≤ most ∧ Hid (v = valb 10 (s.data.toList.take k)) ∧ Hid (∀ c ∈ s.data.toList.take k, dv c < 10)) (fun _ i => s.size - (intOf i).toNat)
    case atStart => exact ⟨0, 0, Nat.zero_le _, rfl, rfl, hm, Lib.hid rfl, Lib.hid (by simp)⟩
    case round =>
      obtain ⟨k, v, hk, rfl, rfl, hv, HV, HA⟩ := hrel
      by_cases hlt : k < s.size
      · have hd := dv_le s[k]
        have hts := take_snoc s k hlt
        have HT : Hid (valb 10 (s.data.toList.take (k + 1)) = v * 10 + dv s[k]) := by rw [hts, valb_snoc, ← HV.out]; exact rfl
        have HA2 : dv s[k] < 10 → Hid (∀ c ∈ s.data.toList.take (k + 1), dv c < 10) := by
          intro h; rw [hts]; intro c hc
          rcases List.mem_append.1 hc with hc | hc
          · exact HA.out c hc
          · simp at hc; rw [hc]; exact h
        clear hts
        by_cases c1 : 10 ≤ dv s[k]
        · have e1 := parB_bad most (byte_mem s k hlt) c1
          have E1 := Lib.hid e1
          have E2 := Lib.hid (parN_no e1)
          clear e1 HA2
          go_wp2_with (go_at_call 55; refine (value_any _ _).mono ?_; rintro e w' ⟨rfl, rfl⟩)
          go_ret2
          exact ⟨ret_ib E2.out.symm E1.out.symm, rfl⟩
        · have HA3 := HA2 (by omega)
          clear HA2
          by_cases c2 : (v : Int) > most / 10
          · have e1 : parB s.data.toList most = false := parB_over (k + 1) (by rw [HT.out]; omega)
            have E1 := Lib.hid e1
            have E2 := Lib.hid (parN_no e1)
            clear e1
            go_wp2_with (go_at_call 55; refine (value_any _ _).mono ?_; rintro e w' ⟨rfl, rfl⟩)
            go_ret2
            exact ⟨ret_ib E2.out.symm E1.out.symm, rfl⟩
          · have c2' : (v : Int) * 10 ≤ most := by omega
            by_cases c3 : (dv s[k] : Int) > most - v * 10
            · have e1 : parB s.data.toList most = false := parB_over (k + 1) (by rw [HT.out]; omega)
              have E1 := Lib.hid e1
              have E2 := Lib.hid (parN_no e1)
              clear e1
              go_wp2_with (go_at_call 55; refine (value_any _ _).mono ?_; rintro e w' ⟨rfl, rfl⟩)
              go_ret2
              exact ⟨ret_ib E2.out.symm E1.out.symm, rfl⟩
            · go_wp2_with (go_at_call 55; refine (value_any _ _).mono ?_; rintro e w' ⟨rfl, rfl⟩)
              go_round
              case rel => exact ⟨k + 1, v * 10 + dv s[k], by omega, by go_num, by go_num, by omega, Lib.hid HT.out.symm, HA3⟩
              case measure => simp [intOf]; omega
      · have e1 : parB s.data.toList most = true := by
          have hA := HA.out
          have hV := HV.out
          rw [List.take_of_length_le (by rw [len_size]; omega)] at hA hV
          exact parB_yes (by rw [len_size]; exact hz) H0.out hA (by omega)
        have e2 : parN s.data.toList most = (v : Int) := by
          have hV := HV.out
          rw [List.take_of_length_le (by rw [len_size]; omega)] at hV
          rw [parN_of e1, hV]
        have E1 := Lib.hid e1
        have E2 := Lib.hid e2
        clear e1 e2
        go_wp2
        go_ret2
        exact ⟨ret_ib E2.out.symm E1.out.symm, rfl⟩
theorem parse_any (s : ByteArray) (most : Int) (w : World) (hs : s.size ≤ 9223372036854775807) (hm : -9223372036854775808 ≤ most) (hm2 : most ≤ 9223372036854775807) :
    Calls Tryz.prog 31 #[.string s, .int .i64 most] w fun e w' => e = .returned (.tuple #[.int .i64 (parN s.data.toList most), .bool (parB s.data.toList most)]) ∧ w = w' := by
  by_cases h0 : s.size = 0
  · exact parse_empty s most w h0
  · by_cases h1 : s.size = 1 ∨ s[0]'(by omega) ≠ 48
    · by_cases h2 : most < 0
      · exact parse_neg s most w (by omega) h1 hs h2 hm
      · exact parse_run s most w (by omega) h1 hs (by omega) hm2
    · refine parse_zero s most w (by omega) ?_ hs
      exact Classical.not_not.1 (fun h => h1 (Or.inr h))
theorem parse_list (l : List UInt8) (most : Int) (w : World) (hs : l.length ≤ 9223372036854775807) (hm : -9223372036854775808 ≤ most) (hm2 : most ≤ 9223372036854775807) :
    Calls Tryz.prog 31 #[.string ⟨l.toArray⟩, .int .i64 most] w fun e w' => e = .returned (.tuple #[.int .i64 (parN l most), .bool (parB l most)]) ∧ w = w' := by
  have e : (⟨l.toArray⟩ : ByteArray).data.toList = l := by simp
  have h := parse_any ⟨l.toArray⟩ most w (by rw [← len_size, e]; exact hs) hm hm2
  rwa [e] at h
end Go.Proofs.YtefkolkagebffaaGreatDoor.Dec
/- Contracts of package dec: texts. -/
namespace Go.Proofs.YtefkolkagebffaaGreatDoor.Dec
set_option maxRecDepth 100000
open Go.ChangeShapes Go.WideShapes Go.ChangeAt Go.RowKit
set_option linter.unusedVariables false
def byteV (c : UInt8) : Value := .int .u8 (c.toNat : Int)
theorem figs_get (d : Nat) (h : d < 16) : ((⟨#[48, 49, 50, 51, 52, 53, 54, 55, 56, 57, 97, 98, 99, 100, 101, 102]⟩ : ByteArray)[d]'h) = digit d := by
  have : ∀ d : Fin 16, ((⟨#[48, 49, 50, 51, 52, 53, 54, 55, 56, 57, 97, 98, 99, 100, 101, 102]⟩ : ByteArray)[d.val]'d.isLt) = digit d.val := by decide
  exact this ⟨d, h⟩
/-- c digits are written, from place p on; m is left. -/
def WI (b n c p m : Nat) (suf : List UInt8) (f : Nat → Value) : Prop :=
  suf.length = c ∧ (∀ j (hj : j < suf.length), f (p + j) = byteV suf[j]) ∧ digs b n = digs b m ++ suf ∧ (c = 0 ∨ 1 ≤ m) ∧ m * b ^ c ≤ n
theorem WI.cells {b n c q m : Nat} {suf : List UInt8} {f : Nat → Value} {d : UInt8} (h : WI b n c (q + 1) m suf f) : ∀ j (hj : j < (d :: suf).length), (fun j => if j = q then byteV d else f j) (q + j) = byteV (d :: suf)[j] := by
  intro j hj
  cases j with
  | zero => simp
  | succ j =>
    have := h.2.1 j (by simpa using hj)
    have e : q + 1 + j = q + (j + 1) := by omega
    rw [e] at this
    simp only [List.getElem_cons_succ]
    rw [if_neg (by omega), this]
theorem WI.next {b n c q m : Nat} {suf : List UInt8} {f : Nat → Value} (h : WI b n c (q + 1) m suf f) (hb : 2 ≤ b) (hm : b ≤ m) :
    WI b n (c + 1) q (m / b) (digit (m % b) :: suf) (fun j => if j = q then byteV (digit (m % b)) else f j) := by
  obtain ⟨h1, h2, h3, h4, h5⟩ := h
  refine ⟨by simp [h1], WI.cells ⟨h1, h2, h3, h4, h5⟩, ?_, Or.inr (Nat.div_pos hm (by omega)), ?_⟩
  · rw [h3, digs_hi hb hm]; simp
  · have : m / b * b ≤ m := Nat.div_mul_le_self m b
    have := Nat.mul_le_mul_right (b ^ c) this
    rw [Nat.pow_succ, Nat.mul_comm (b ^ c) b, ← Nat.mul_assoc]; omega
theorem WI.last {b n c q m : Nat} {suf : List UInt8} {f : Nat → Value} (h : WI b n c (q + 1) m suf f) (hm : m < b) : digs b n = digit (m % b) :: suf := by
  rw [h.2.2.1, digs_lo hm, Nat.mod_eq_of_lt hm]; rfl
theorem WI.full {b n m p : Nat} {suf : List UInt8} {f : Nat → Value} (h : WI b n 20 p m suf f) (hb : 10 ≤ b) (hn : n ≤ 18446744073709551615) : False := by
  obtain ⟨_, _, _, h4, h5⟩ := h
  have h6 : (10 : Nat) ^ 20 ≤ b ^ 20 := Nat.pow_le_pow_left hb 20
  have h7 : (10 : Nat) ^ 20 = 100000000000000000000 := by decide
  have : 1 * b ^ 20 ≤ m * b ^ 20 := Nat.mul_le_mul_right _ (by omega)
  omega
theorem zeros20 (i : Nat) (hi : i < 20) : (#[Value.int .u8 0, .int .u8 0, .int .u8 0, .int .u8 0, .int .u8 0, .int .u8 0, .int .u8 0, .int .u8 0, .int .u8 0, .int .u8 0, .int .u8 0, .int .u8 0, .int .u8 0, .int .u8 0, .int .u8 0, .int .u8 0, .int .u8 0, .int .u8 0, .int .u8 0, .int .u8 0] : Array Value)[i]? = some (.int .u8 0) := by
  have e : (#[Value.int .u8 0, .int .u8 0, .int .u8 0, .int .u8 0, .int .u8 0, .int .u8 0, .int .u8 0, .int .u8 0, .int .u8 0, .int .u8 0, .int .u8 0, .int .u8 0, .int .u8 0, .int .u8 0, .int .u8 0, .int .u8 0, .int .u8 0, .int .u8 0, .int .u8 0, .int .u8 0] : Array Value) = Array.replicate 20 (.int .u8 0) := rfl
  rw [e, Array.getElem?_replicate, if_pos hi]
theorem slice20 (g q : Nat) (hq : q < 20) (W : World) : (Instr.sliceAt 152 (.pointer (some ⟨g, 0, none⟩)) (some (.int .i64 (q : Int))) none none).run Tryz.prog W = .ok (.slice (some ⟨g, q, none⟩) (20 - q) (20 - q)) W := by
  have e1 : Tryz.prog.arrayLen 152 = 20 := by kernel_rfl
  have e2 : Tryz.prog.elem 152 = 5 := by kernel_rfl
  have e3 : (sizeOf 5).run Tryz.prog W = .ok 1 W := by kernel_rfl
  rw [run_sliceAt_array_l W 152 _ (by rw [e1, e2]; kernel_rfl) .i64 q (by omega) (by rw [e1]; omega), e1, e2, e3]
  simp only [Result.andThen, slicedAt, Int.toNat_natCast]
  rw [if_neg (by omega), Nat.mul_one]
  simp [Addr.add]
  intro h; exact h.symm
set_option maxHeartbeats 1000000 in
theorem write_any (n b : Nat) (w : World) (hn : n ≤ 18446744073709551615) (hb : 10 ≤ b) (hb2 : b ≤ 16) :
    Calls Tryz.prog 72 #[.int .u64 n, .int .u64 b] w fun e w' => e = .returned (.string ⟨(digs b n).toArray⟩) ∧ Below w.heap.size w w' := by
  go_enter Tryz.func72, Tryz.ntmps72
  go_wp2
  go_loopw [6, 0, 7] (fun first v0 i wr => ∃ (c p m : Nat) (suf : List UInt8) (f : Nat → Value), first = .int .i64 p ∧ i = .int .i64 c ∧ v0 = .int .u64 m ∧ c + p ≤ 20 ∧ 20 ≤ c + p ∧ wr.rowIs w.heap.size 152 20 f ∧ Below w.heap.size w wr
      ∧ WI b n c p m suf f ∧ m ≤ 18446744073709551615) (fun _ _ i _ => 20 - (intOf i).toNat)
  case atStart =>
    exact ⟨0, 20, n, [], fun _ => .int .u8 0, rfl, rfl, rfl, by omega, by omega, World.rowIs_alloc _ _ _ _ (fun i hi => zeros20 i hi), (Below.refl _ _).alloc (Nat.le_refl _) _, ⟨rfl, by simp, by simp, Or.inl rfl, by simp⟩, hn⟩
  case round =>
    obtain ⟨c, p, m, suf, f, rfl, rfl, rfl, h1, h2, hrow, hbel, HI, hm⟩ := hrel
    by_cases hlt : c < 20
    · obtain ⟨q, rfl⟩ : ∃ q, p = q + 1 := ⟨p - 1, by omega⟩
      have hcell := hrow.cell (i := q) (by omega)
      have hfro := hrow.frozen q
      have hd : m % b < 16 := Nat.lt_of_lt_of_le (Nat.mod_lt _ (by omega)) hb2
      have hfg := figs_get (m % b) hd
      have hs := hrow.set q (byteV (digit (m % b)))
      have hb3 := hbel.setCell (p := ⟨w.heap.size, q, none⟩) (Nat.le_refl _) (byteV (digit (m % b)))
      unfold byteV at hs hb3
      have hq0 : 0 ≤ (m : Int) / (b : Int) := Int.ediv_nonneg (by omega) (by omega)
      have hq1 : (m : Int) / (b : Int) ≤ 18446744073709551615 := Int.le_trans (Int.ediv_le_self _ (by omega)) (by omega)
      by_cases hz : m < b
      · have hz2 : ((m : Int) / (b : Int) == 0) = true := by rw [beq_iff_eq, Int.ediv_eq_zero_of_lt (by omega) (by omega)]
        have HL := Lib.hid (HI.last hz)
        have hsl := slice20 w.heap.size q (by omega)
        have hlen : (digs b n).length = 20 - q := by rw [HL.out]; simp [HI.1]; omega
        have hcv := run_convert_bytes_back (P := Tryz.prog) (wr.setCell ⟨w.heap.size, q, none⟩ (Value.int .u8 ((digit (m % b)).toNat : Int))) 54 9 5 ⟨w.heap.size, q, none⟩ (20 - q) (digs b n) Tryz.underlying54 Tryz.underlying5 Tryz.underlying9 (by
          intro j hj
          have hc := HI.cells (d := digit (m % b)) j (by rw [← HL.out]; exact hj)
          have hj2 : q + j < 20 := by rw [hlen] at hj; omega
          have h9 := hs.cell (i := q + j) hj2
          have e9 : (⟨w.heap.size, q, none⟩ : Addr).add j = ⟨w.heap.size, q + j, none⟩ := by unfold Addr.add; split <;> simp_all
          rw [e9, h9]
          have e8 : (digit (m % b) :: suf)[j]'(by rw [← HL.out]; exact hj) = (digs b n)[j] := by congr 1; exact HL.out.symm
          rw [e8] at hc
          exact congrArg some hc)
        rw [hlen] at hcv
        clear hlen
        go_wp2
        go_ret
        exact ⟨rfl, hb3⟩
      · have hq2 : 1 ≤ (m : Int) / (b : Int) := by
          have := Nat.div_pos (show b ≤ m by omega) (by omega)
          omega
        have hz2 : ((m : Int) / (b : Int) == 0) = false := by rw [beq_eq_false_iff_ne]; omega
        have HN := HI.next (by omega) (by omega)
        go_wp2
        go_roundw
        case rel => exact ⟨c + 1, q, m / b, _, _, rfl, by go_num, by simp, by omega, by omega, hs, hb3, HN, by omega⟩
        case measure => simp [intOf]; omega
    · obtain rfl : c = 20 := by omega
      exact (HI.full hb hn).elim
theorem text_any (n : Int) (w : World) (h0 : -9223372036854775808 ≤ n) (h1 : n ≤ 9223372036854775807) :
    Calls Tryz.prog 42 #[.int .i64 n] w fun e w' => e = .returned (.string ⟨(text n).toArray⟩) ∧ Below w.heap.size w w' := by
  by_cases h : n < 0
  · obtain ⟨m, rfl⟩ : ∃ m : Nat, n = -(m : Int) := ⟨n.natAbs, by omega⟩
    go_enter Tryz.func42, Tryz.ntmps42
    go_wp2_with fail
    rw [show IntKind.u64.wrap (-IntKind.u64.wrap (-(m : Int))) = (m : Int) from by rw [IntKind.wrap_u64, IntKind.wrap_u64]; omega]
    refine (write_any m 10 _ (by omega) (by omega) (by omega)).mono ?_
    rintro e w' ⟨rfl, hb⟩
    have hl := digs_len (b := 10) (by omega) 19 m (by have : (10 : Nat) ^ 20 = 100000000000000000000 := by decide
                                                      omega)
    go_wp2
    go_ret
    exact ⟨ret_s (by unfold text; rw [if_pos (by omega)]; simp), hb⟩
  · obtain ⟨m, rfl⟩ := Int.eq_ofNat_of_zero_le (show 0 ≤ n by omega)
    go_enter Tryz.func42, Tryz.ntmps42
    go_wp2_with (go_at_call 72; refine (write_any m 10 _ (by omega) (by omega) (by omega)).mono ?_; rintro e w' ⟨rfl, hb⟩)
    go_ret
    exact ⟨ret_s (by unfold text; rw [if_neg (by omega)]; rfl), hb⟩
end Go.Proofs.YtefkolkagebffaaGreatDoor.Dec
/- Contracts of package dec: digits to base 16, written and read. -/
namespace Go.Proofs.YtefkolkagebffaaGreatDoor.Dec
set_option maxRecDepth 100000
open Go.ChangeShapes Go.WideShapes Go.ChangeAt Go.RowKit
set_option linter.unusedVariables false
theorem hex_any (n : Int) (w : World) (h0 : -9223372036854775808 ≤ n) (h1 : n ≤ 9223372036854775807) :
    Calls Tryz.prog 129 #[.int .i64 n] w fun e w' => e = .returned (.string ⟨(hex n).toArray⟩) ∧ Below w.heap.size w w' := by
  by_cases h : n < 0
  · go_enter Tryz.func129, Tryz.ntmps129
    go_wp2
    go_ret
    exact ⟨by unfold hex; rw [if_pos (Or.inl h)]; rfl, Below.refl _ _⟩
  · by_cases h2 : n > 65535
    · go_enter Tryz.func129, Tryz.ntmps129
      go_wp2
      go_ret
      exact ⟨by unfold hex; rw [if_pos (Or.inr h2)]; rfl, Below.refl _ _⟩
    · obtain ⟨m, rfl⟩ := Int.eq_ofNat_of_zero_le (show 0 ≤ n by omega)
      go_enter Tryz.func129, Tryz.ntmps129
      go_wp2_with (go_at_call 72; refine (write_any m 16 _ (by omega) (by omega) (by omega)).mono ?_; rintro e w' ⟨rfl, hb⟩)
      go_ret
      exact ⟨ret_s (by unfold hex; rw [if_neg (by omega)]; rfl), hb⟩
set_option maxHeartbeats 2000000 in
theorem parseHex_any (s : ByteArray) (w : World) (hs : s.size ≤ 9223372036854775807) :
    Calls Tryz.prog 130 #[.string s] w fun e w' => e = .returned (.tuple #[.int .i64 (hexN s.data.toList), .bool (hexB s.data.toList)]) ∧ w = w' := by
  by_cases h0 : s.size < 1
  · have e1 : hexB s.data.toList = false := hexB_len (by rw [len_size]; omega)
    have E1 := Lib.hid e1
    have E2 := Lib.hid (hexN_no e1)
    clear e1
    go_enter Tryz.func130, Tryz.ntmps130
    go_wp2
    go_ret2
    exact ⟨ret_ib E2.out.symm E1.out.symm, rfl⟩
  · by_cases h4 : s.size > 4
    · have e1 : hexB s.data.toList = false := hexB_len (by rw [len_size]; omega)
      have E1 := Lib.hid e1
      have E2 := Lib.hid (hexN_no e1)
      clear e1
      go_enter Tryz.func130, Tryz.ntmps130
      go_wp2
      go_ret2
      exact ⟨ret_ib E2.out.symm E1.out.symm, rfl⟩
    · go_enter Tryz.func130, Tryz.ntmps130
      go_wp2
      go_slots
      go_loop [4, 17] (fun n i => ∃ k v : Nat, k ≤ s.size ∧ i = .int .i64 k ∧ n = .int .i64 v ∧ v ≤ 65535 ∧ Hid (v = valb 16 (s.data.toList.take k)) ∧ Hid (∀ c ∈ s.data.toList.take k, dv c < 16)) (fun _ i => s.size - (intOf i).toNat)
      case atStart => exact ⟨0, 0, Nat.zero_le _, rfl, rfl, by omega, Lib.hid rfl, Lib.hid (by simp)⟩
      case round =>
        obtain ⟨k, v, hk, rfl, rfl, hv, HV, HA⟩ := hrel
        by_cases hlt : k < s.size
        · have hd := dv_le s[k]
          have hts := take_snoc s k hlt
          by_cases c1 : 16 ≤ dv s[k]
          · have e1 := hexB_bad (byte_mem s k hlt) c1
            have E1 := Lib.hid e1
            have E2 := Lib.hid (hexN_no e1)
            clear e1 hts
            go_wp2_with (go_at_call 55; refine (value_any _ _).mono ?_; rintro e w' ⟨rfl, rfl⟩)
            go_ret2
            exact ⟨ret_ib E2.out.symm E1.out.symm, rfl⟩
          · have HT : Hid (valb 16 (s.data.toList.take (k + 1)) = v * 16 + dv s[k]) := by rw [hts, valb_snoc, ← HV.out]; exact rfl
            have HA2 : Hid (∀ c ∈ s.data.toList.take (k + 1), dv c < 16) := by
              rw [hts]; intro c hc
              rcases List.mem_append.1 hc with hc | hc
              · exact HA.out c hc
              · simp at hc; rw [hc]; omega
            have hvb : v * 16 + dv s[k] ≤ 65535 := by
              have := val_lt4 HA2.out 4 (by have := List.length_take_le (k + 1) s.data.toList; omega)
              rw [HT.out] at this
              have e : (16 : Nat) ^ 4 = 65536 := by decide
              omega
            clear hts
            go_wp2_with (go_at_call 55; refine (value_any _ _).mono ?_; rintro e w' ⟨rfl, rfl⟩)
            go_round
            case rel => exact ⟨k + 1, v * 16 + dv s[k], by omega, by go_num, by go_num, by omega, Lib.hid HT.out.symm, HA2⟩
            case measure => simp [intOf]; omega
        · have hA := HA.out
          have hV := HV.out
          rw [List.take_of_length_le (by rw [len_size]; omega)] at hA hV
          have e1 : hexB s.data.toList = true := (hexB_iff _).2 ⟨by rw [len_size]; omega, by rw [len_size]; omega, hA⟩
          have E2 := Lib.hid (hexN_of e1)
          have E1 := Lib.hid e1
          have E3 := Lib.hid hV
          clear e1 hA hV
          go_wp2
          go_ret2
          exact ⟨ret_ib (by rw [E2.out, E3.out]) E1.out.symm, rfl⟩
end Go.Proofs.YtefkolkagebffaaGreatDoor.Dec
