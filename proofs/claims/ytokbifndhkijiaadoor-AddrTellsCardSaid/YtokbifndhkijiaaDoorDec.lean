/- Contracts of package dec and of its document's answers. -/
import Derived.Test.YtokbifndhkijiaaDoorKit
import Derived.Test.YtokbifndhkijiaaDoorDecMath
namespace Go.Proofs.YtokbifndhkijiaaDoor.Dec
set_option maxRecDepth 100000
open Go.ChangeShapes Go.WideShapes Go.ChangeAt Go.RowKit
set_option linter.unusedVariables false
theorem value_any (c : UInt8) (w : World) : Calls Tryd.prog 55 #[.int .u8 (c.toNat : Int)] w fun e w' => e = .returned (.int .i64 (dv c : Nat)) ∧ w = w' := by
  have hb : c.toNat < 256 := c.toNat_lt
  by_cases h1 : 48 ≤ c.toNat <;> by_cases h2 : c.toNat ≤ 57 <;> by_cases h3 : 97 ≤ c.toNat <;> by_cases h4 : c.toNat ≤ 102 <;> by_cases h5 : 65 ≤ c.toNat <;> by_cases h6 : c.toNat ≤ 70
  all_goals first
    | (exfalso; omega)
    | (go_enter Tryd.func55, Tryd.ntmps55
       go_wp2
       go_ret
       exact ⟨ret_i (by unfold dv; simp only [h1, h2, h3, h4, h5, h6]; simp; try omega), rfl⟩)
theorem parse_empty (s : ByteArray) (most : Int) (w : World) (hz : s.size = 0) :
    Calls Tryd.prog 32 #[.string s, .int .i64 most] w fun e w' => e = .returned (.tuple #[.int .i64 (parN s.data.toList most), .bool (parB s.data.toList most)]) ∧ w = w' := by
  have e0 : s.toList = [] := by rw [ByteArray.toList_eq]; exact List.eq_nil_of_length_eq_zero (by rw [len_size]; exact hz)
  have e1 : parB s.data.toList most = false := parB_nil most (List.eq_nil_of_length_eq_zero (by rw [len_size]; exact hz))
  have E1 := Lib.hid e1
  have E2 := Lib.hid (parN_no e1)
  clear e1 hz
  go_enter Tryd.func32, Tryd.ntmps32
  go_wp2
  go_ret2
  exact ⟨ret_ib E2.out.symm E1.out.symm, rfl⟩
theorem parse_zero (s : ByteArray) (most : Int) (w : World) (hz : 1 < s.size) (h0 : s[0]'(by omega) = 48) (hs : s.size ≤ 9223372036854775807) :
    Calls Tryd.prog 32 #[.string s, .int .i64 most] w fun e w' => e = .returned (.tuple #[.int .i64 (parN s.data.toList most), .bool (parB s.data.toList most)]) ∧ w = w' := by
  have hne : s.data.toList ≠ [] := by intro e; have := len_size s; rw [e] at this; simp at this; omega
  have e1 : parB s.data.toList most = false := parB_zero most (by rw [len_size]; exact hz) (by rw [head_byte s (by omega), h0])
  have E1 := Lib.hid e1
  have E2 := Lib.hid (parN_no e1)
  have e0 : (s.toList == []) = false := by rw [ByteArray.toList_eq]; simpa using hne
  have e2 : s.toList.isEmpty = false := by rw [ByteArray.toList_eq]; simpa using hne
  have hb : (((s[0]'(by omega)).toNat : Int) == 48) = true := by rw [h0]; rfl
  clear e1 h0 hne
  go_enter Tryd.func32, Tryd.ntmps32
  go_wp2
  go_ret2
  exact ⟨ret_ib E2.out.symm E1.out.symm, rfl⟩
set_option maxHeartbeats 2000000 in
theorem parse_neg (s : ByteArray) (most : Int) (w : World) (hz : 1 ≤ s.size) (h0 : s.size = 1 ∨ s[0]'(by omega) ≠ 48) (hs : s.size ≤ 9223372036854775807) (hm : most < 0) (hm2 : -9223372036854775808 ≤ most) :
    Calls Tryd.prog 32 #[.string s, .int .i64 most] w fun e w' => e = .returned (.tuple #[.int .i64 (parN s.data.toList most), .bool (parB s.data.toList most)]) ∧ w = w' := by
  have hne : s.data.toList ≠ [] := by intro e; have := len_size s; rw [e] at this; simp at this; omega
  have e0 : (s.toList == []) = false := by rw [ByteArray.toList_eq]; simpa using hne
  have e2 : s.toList.isEmpty = false := by rw [ByteArray.toList_eq]; simpa using hne
  have hb : 1 < s.size → (((s[0]'(by omega)).toNat : Int) == 48) = false := by
    intro h
    have h1 : s[0]'(by omega) ≠ 48 := by rcases h0 with h0 | h0; omega; exact h0
    rw [beq_eq_false_iff_ne]; intro e
    exact h1 (UInt8.toNat_inj.1 (by have : (48 : UInt8).toNat = 48 := rfl; omega))
  have e1 : parB s.data.toList most = false := parB_over 0 (by simp [valb]; omega)
  have E1 := Lib.hid e1
  have E2 := Lib.hid (parN_no e1)
  have ht : most.tdiv 10 ≤ 0 := by
    obtain ⟨n, rfl⟩ : ∃ n : Nat, most = -(n : Int) := ⟨most.natAbs, by omega⟩
    rw [Int.neg_tdiv]
    have := Int.tdiv_nonneg (a := (n : Int)) (b := 10) (by omega) (by omega)
    omega
  clear h0 hne e1
  by_cases h1 : 1 < s.size
  all_goals
    try have hb := hb h1
    go_enter Tryd.func32, Tryd.ntmps32
    go_wp2
    go_loop [6, 23] (fun n i => i = .int .i64 0 ∧ n = .int .i64 0) (fun _ _ => 0)
    case atStart => exact ⟨rfl, rfl⟩
    case round =>
      obtain ⟨rfl, rfl⟩ := hrel
      have hd := dv_le s[0]
      by_cases c1 : 10 ≤ dv s[0]
      · go_wp2_with (go_at_call 55; refine (value_any _ _).mono ?_; rintro e w' ⟨rfl, rfl⟩)
        go_ret2
        exact ⟨ret_ib E2.out.symm E1.out.symm, rfl⟩
      · by_cases c2 : 0 > most.tdiv 10
        · go_wp2_with (go_at_call 55; refine (value_any _ _).mono ?_; rintro e w' ⟨rfl, rfl⟩)
          go_ret2
          exact ⟨ret_ib E2.out.symm E1.out.symm, rfl⟩
        · go_wp2_with (go_at_call 55; refine (value_any _ _).mono ?_; rintro e w' ⟨rfl, rfl⟩)
          go_ret2
          exact ⟨ret_ib E2.out.symm E1.out.symm, rfl⟩
set_option maxHeartbeats 2000000 in
theorem parse_run (s : ByteArray) (most : Int) (w : World) (hz : 1 ≤ s.size) (h0 : s.size = 1 ∨ s[0]'(by omega) ≠ 48) (hs : s.size ≤ 9223372036854775807) (hm : 0 ≤ most) (hm2 : most ≤ 9223372036854775807) :
    Calls Tryd.prog 32 #[.string s, .int .i64 most] w fun e w' => e = .returned (.tuple #[.int .i64 (parN s.data.toList most), .bool (parB s.data.toList most)]) ∧ w = w' := by
  have hne : s.data.toList ≠ [] := by intro e; have := len_size s; rw [e] at this; simp at this; omega
  have e0 : (s.toList == []) = false := by rw [ByteArray.toList_eq]; simpa using hne
  have e2 : s.toList.isEmpty = false := by rw [ByteArray.toList_eq]; simpa using hne
  have H0 : Hid (s.data.toList.length ≤ 1 ∨ s.data.toList.head? ≠ some 48) := by
    rcases h0 with h0 | h0
    · left; rw [len_size]; omega
    · right; rw [head_byte s (by omega)]; intro e; injection e with e; exact h0 e
  have hb : 1 < s.size → (((s[0]'(by omega)).toNat : Int) == 48) = false := by
    intro h
    have h1 : s[0]'(by omega) ≠ 48 := by rcases h0 with h0 | h0; omega; exact h0
    rw [beq_eq_false_iff_ne]; intro e
    exact h1 (UInt8.toNat_inj.1 (by have : (48 : UInt8).toNat = 48 := rfl; omega))
  clear h0 hne
  by_cases h1 : 1 < s.size
  all_goals
    try have hb := hb h1
    go_enter Tryd.func32, Tryd.ntmps32
    go_wp2
    go_loop [6, 23] (fun n i => ∃ k v : Nat, k ≤ s.size ∧ i = .int .i64 k ∧ n = .int .i64 v ∧ (v : Int) ≤ most ∧ Hid (v = valb 10 (s.data.toList.take k)) ∧ Hid (∀ c ∈ s.data.toList.take k, dv c < 10)) (fun _ i => s.size - (intOf i).toNat)
    case atStart => exact ⟨0, 0, Nat.zero_le _, rfl, rfl, hm, Lib.hid rfl, Lib.hid (by simp)⟩
    case round =>
      obtain ⟨k, v, hk, rfl, rfl, hv, HV, HA⟩ := hrel
      by_cases hlt : k < s.size
      · have hd := dv_le s[k]
        have hts := take_snoc s k hlt
        have HT : Hid (valb 10 (s.data.toList.take (k + 1)) = v * 10 + dv s[k]) := by rw [hts, valb_snoc, ← HV.out]; exact rfl
        have HA2 : dv s[k] < 10 → Hid (∀ c ∈ s.data.toList.take (k + 1), dv c < 10) := by
          intro h; rw [hts]; intro c hc
          rcases List.mem_append.1 hc with hc | hc
          · exact HA.out c hc
          · simp at hc; rw [hc]; exact h
        clear hts
        by_cases c1 : 10 ≤ dv s[k]
        · have e1 := parB_bad most (byte_mem s k hlt) c1
          have E1 := Lib.hid e1
          have E2 := Lib.hid (parN_no e1)
          clear e1 HA2
          go_wp2_with (go_at_call 55; refine (value_any _ _).mono ?_; rintro e w' ⟨rfl, rfl⟩)
          go_ret2
          exact ⟨ret_ib E2.out.symm E1.out.symm, rfl⟩
        · have HA3 := HA2 (by omega)
          clear HA2
          by_cases c2 : (v : Int) > most / 10
          · have e1 : parB s.data.toList most = false := parB_over (k + 1) (by rw [HT.out]; omega)
            have E1 := Lib.hid e1
            have E2 := Lib.hid (parN_no e1)
            clear e1
            go_wp2_with (go_at_call 55; refine (value_any _ _).mono ?_; rintro e w' ⟨rfl, rfl⟩)
            go_ret2
            exact ⟨ret_ib E2.out.symm E1.out.symm, rfl⟩
          · have c2' : (v : Int) * 10 ≤ most := by omega
            by_cases c3 : (dv s[k] : Int) > most - v * 10
            · have e1 : parB s.data.toList most = false := parB_over (k + 1) (by rw [HT.out]; omega)
              have E1 := Lib.hid e1
              have E2 := Lib.hid (parN_no e1)
              clear e1
              go_wp2_with (go_at_call 55; refine (value_any _ _).mono ?_; rintro e w' ⟨rfl, rfl⟩)
              go_ret2
              exact ⟨ret_ib E2.out.symm E1.out.symm, rfl⟩
            · go_wp2_with (go_at_call 55; refine (value_any _ _).mono ?_; rintro e w' ⟨rfl, rfl⟩)
              go_round
              case rel => exact ⟨k + 1, v * 10 + dv s[k], by omega, by go_num, by go_num, by omega, Lib.hid HT.out.symm, HA3⟩
              case measure => simp [intOf]; omega
      · have e1 : parB s.data.toList most = true := by
          have hA := HA.out
          have hV := HV.out
          rw [List.take_of_length_le (by rw [len_size]; omega)] at hA hV
          exact parB_yes (by rw [len_size]; exact hz) H0.out hA (by omega)
        have e2 : parN s.data.toList most = (v : Int) := by
          have hV := HV.out
          rw [List.take_of_length_le (by rw [len_size]; omega)] at hV
          rw [parN_of e1, hV]
        have E1 := Lib.hid e1
        have E2 := Lib.hid e2
        clear e1 e2
        go_wp2
        go_ret2
        exact ⟨ret_ib E2.out.symm E1.out.symm, rfl⟩
theorem parse_any (s : ByteArray) (most : Int) (w : World) (hs : s.size ≤ 9223372036854775807) (hm : -9223372036854775808 ≤ most) (hm2 : most ≤ 9223372036854775807) :
    Calls Tryd.prog 32 #[.string s, .int .i64 most] w fun e w' => e = .returned (.tuple #[.int .i64 (parN s.data.toList most), .bool (parB s.data.toList most)]) ∧ w = w' := by
  by_cases h0 : s.size = 0
  · exact parse_empty s most w h0
  · by_cases h1 : s.size = 1 ∨ s[0]'(by omega) ≠ 48
    · by_cases h2 : most < 0
      · exact parse_neg s most w (by omega) h1 hs h2 hm
      · exact parse_run s most w (by omega) h1 hs (by omega) hm2
    · refine parse_zero s most w (by omega) ?_ hs
      exact Classical.not_not.1 (fun h => h1 (Or.inr h))
theorem parse_list (l : List UInt8) (most : Int) (w : World) (hs : l.length ≤ 9223372036854775807) (hm : -9223372036854775808 ≤ most) (hm2 : most ≤ 9223372036854775807) :
    Calls Tryd.prog 32 #[.string ⟨l.toArray⟩, .int .i64 most] w fun e w' => e = .returned (.tuple #[.int .i64 (parN l most), .bool (parB l most)]) ∧ w = w' := by
  have e : (⟨l.toArray⟩ : ByteArray).data.toList = l := by simp
  have h := parse_any ⟨l.toArray⟩ most w (by rw [← len_size, e]; exact hs) hm hm2
  rwa [e] at h
end Go.Proofs.YtokbifndhkijiaaDoor.Dec
