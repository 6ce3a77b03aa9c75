/- Contracts of package dec: digits to base 16, written and read. -/
import Derived.Test.YtokbifndhkijiaaDoorDec
import Derived.Test.YtokbifndhkijiaaDoorDecText
namespace Go.Proofs.YtokbifndhkijiaaDoor.Dec
set_option maxRecDepth 100000
open Go.ChangeShapes Go.WideShapes Go.ChangeAt Go.RowKit
set_option linter.unusedVariables false
theorem hex_any (n : Int) (w : World) (h0 : -9223372036854775808 ≤ n) (h1 : n ≤ 9223372036854775807) :
    Calls Tryd.prog 45 #[.int .i64 n] w fun e w' => e = .returned (.string ⟨(hex n).toArray⟩) ∧ Below w.heap.size w w' := by
  by_cases h : n < 0
  · go_enter Tryd.func45, Tryd.ntmps45
    go_wp2
    go_ret
    exact ⟨by unfold hex; rw [if_pos (Or.inl h)]; rfl, Below.refl _ _⟩
  · by_cases h2 : n > 65535
    · go_enter Tryd.func45, Tryd.ntmps45
      go_wp2
      go_ret
      exact ⟨by unfold hex; rw [if_pos (Or.inr h2)]; rfl, Below.refl _ _⟩
    · obtain ⟨m, rfl⟩ := Int.eq_ofNat_of_zero_le (show 0 ≤ n by omega)
      go_enter Tryd.func45, Tryd.ntmps45
      go_wp2_with (go_at_call 61; refine (write_any m 16 _ (by omega) (by omega) (by omega)).mono ?_; rintro e w' ⟨rfl, hb⟩)
      go_ret
      exact ⟨ret_s (by unfold hex; rw [if_neg (by omega)]; rfl), hb⟩
set_option maxHeartbeats 2000000 in
theorem parseHex_any (s : ByteArray) (w : World) (hs : s.size ≤ 9223372036854775807) :
    Calls Tryd.prog 58 #[.string s] w fun e w' => e = .returned (.tuple #[.int .i64 (hexN s.data.toList), .bool (hexB s.data.toList)]) ∧ w = w' := by
  by_cases h0 : s.size < 1
  · have e1 : hexB s.data.toList = false := hexB_len (by rw [len_size]; omega)
    have E1 := Lib.hid e1
    have E2 := Lib.hid (hexN_no e1)
    clear e1
    go_enter Tryd.func58, Tryd.ntmps58
    go_wp2
    go_ret2
    exact ⟨ret_ib E2.out.symm E1.out.symm, rfl⟩
  · by_cases h4 : s.size > 4
    · have e1 : hexB s.data.toList = false := hexB_len (by rw [len_size]; omega)
      have E1 := Lib.hid e1
      have E2 := Lib.hid (hexN_no e1)
      clear e1
      go_enter Tryd.func58, Tryd.ntmps58
      go_wp2
      go_ret2
      exact ⟨ret_ib E2.out.symm E1.out.symm, rfl⟩
    · go_enter Tryd.func58, Tryd.ntmps58
      go_wp2
      go_slots
      go_loop [4, 17] (fun n i => ∃ k v : Nat, k ≤ s.size ∧ i = .int .i64 k ∧ n = .int .i64 v ∧ v ≤ 65535 ∧ Hid (v = valb 16 (s.data.toList.take k)) ∧ Hid (∀ c ∈ s.data.toList.take k, dv c < 16)) (fun _ i => s.size - (intOf i).toNat)
      case atStart => exact ⟨0, 0, Nat.zero_le _, rfl, rfl, by omega, Lib.hid rfl, Lib.hid (by simp)⟩
      case round =>
        obtain ⟨k, v, hk, rfl, rfl, hv, HV, HA⟩ := hrel
        by_cases hlt : k < s.size
        · have hd := dv_le s[k]
          have hts := take_snoc s k hlt
          by_cases c1 : 16 ≤ dv s[k]
          · have e1 := hexB_bad (byte_mem s k hlt) c1
            have E1 := Lib.hid e1
            have E2 := Lib.hid (hexN_no e1)
            clear e1 hts
            go_wp2_with (go_at_call 55; refine (value_any _ _).mono ?_; rintro e w' ⟨rfl, rfl⟩)
            go_ret2
            exact ⟨ret_ib E2.out.symm E1.out.symm, rfl⟩
          · have HT : Hid (valb 16 (s.data.toList.take (k + 1)) = v * 16 + dv s[k]) := by rw [hts, valb_snoc, ← HV.out]; exact rfl
            have HA2 : Hid (∀ c ∈ s.data.toList.take (k + 1), dv c < 16) := by
              rw [hts]; intro c hc
              rcases List.mem_append.1 hc with hc | hc
              · exact HA.out c hc
              · simp at hc; rw [hc]; omega
            have hvb : v * 16 + dv s[k] ≤ 65535 := by
              have := val_lt4 HA2.out 4 (by have := List.length_take_le (k + 1) s.data.toList; omega)
              rw [HT.out] at this
              have e : (16 : Nat) ^ 4 = 65536 := by decide
              omega
            clear hts
            go_wp2_with (go_at_call 55; refine (value_any _ _).mono ?_; rintro e w' ⟨rfl, rfl⟩)
            go_round
            case rel => exact ⟨k + 1, v * 16 + dv s[k], by omega, by go_num, by go_num, by omega, Lib.hid HT.out.symm, HA2⟩
            case measure => simp [intOf]; omega
        · have hA := HA.out
          have hV := HV.out
          rw [List.take_of_length_le (by rw [len_size]; omega)] at hA hV
          have e1 : hexB s.data.toList = true := (hexB_iff _).2 ⟨by rw [len_size]; omega, by rw [len_size]; omega, hA⟩
          have E2 := Lib.hid (hexN_of e1)
          have E1 := Lib.hid e1
          have E3 := Lib.hid hV
          clear e1 hA hV
          go_wp2
          go_ret2
          exact ⟨ret_ib (by rw [E2.out, E3.out]) E1.out.symm, rfl⟩
end Go.Proofs.YtokbifndhkijiaaDoor.Dec
