/- Contracts of the document's answers for layer 2: what is read. -/
import Derived.Test.YtokbifndhkijiaaDoorRef02
namespace Go.Proofs.YtokbifndhkijiaaDoor.Dec
set_option maxRecDepth 100000
open Go.ChangeShapes Go.WideShapes Go.ChangeAt Go.RowKit
set_option linter.unusedVariables false
def ParseEnd (l : List UInt8) (most : Int) (w : World) (e : Ending) (w' : World) : Prop := e = .returned (.tuple #[.int .i64 (parN l most), .bool (parB l most)]) ∧ Below w.heap.size w w'
theorem parseEnd_no {l : List UInt8} {most : Int} {w w' : World} {e : Ending} (h : parB l most = false) (he : e = .returned (.tuple #[.int .i64 0, .bool false])) (hb : Below w.heap.size w w') : ParseEnd l most w e w' :=
  ⟨by rw [parN_no h, h]; exact he, hb⟩
theorem parseEnd_yes {l : List UInt8} {most : Int} {w w' : World} {e : Ending} (h : parB l most = true) (he : e = .returned (.tuple #[.int .i64 (valb 10 l : Nat), .bool true])) (hb : Below w.heap.size w w') : ParseEnd l most w e w' :=
  ⟨by rw [parN_of h, h]; exact he, hb⟩
set_option maxHeartbeats 2000000 in
theorem rparse_any (s : ByteArray) (most : Int) (w : World) (hs : s.size ≤ 9223372036854775807) (hm : -9223372036854775808 ≤ most) (hm2 : most ≤ 9223372036854775807) :
    Calls Tryd.prog 39 #[.string s, .int .i64 most] w (ParseEnd s.data.toList most w) := by
  by_cases h0 : s.size < 1
  · have E1 := Lib.hid (parB_nil most (List.eq_nil_of_length_eq_zero (by rw [len_size]; omega)) : parB s.data.toList most = false)
    go_enter Tryd.func39, Tryd.ntmps39
    go_wp2
    go_ret2
    exact parseEnd_no E1.out rfl (Below.refl _ _)
  · by_cases h4 : s.size > 19
    · have E1 := Lib.hid (parB_long (by rw [len_size]; omega) hm2 : parB s.data.toList most = false)
      go_enter Tryd.func39, Tryd.ntmps39
      go_wp2
      go_ret2
      exact parseEnd_no E1.out rfl (Below.refl _ _)
    · go_enter Tryd.func39, Tryd.ntmps39
      go_wp2
      go_loop [6, 7] (fun n i => ∃ k v : Nat, k ≤ s.size ∧ i = .int .i64 k ∧ n = .int .u64 v ∧ v < 10000000000000000000 ∧ Hid (v = valb 10 (s.data.toList.take k)) ∧ Hid (∀ c ∈ s.data.toList.take k, dv c < 10)) (fun _ i => s.size - (intOf i).toNat)
      case atStart => exact ⟨0, 0, Nat.zero_le _, rfl, rfl, by omega, Lib.hid rfl, Lib.hid (by simp)⟩
      case round =>
        obtain ⟨k, v, hk, rfl, rfl, hv, HV, HA⟩ := hrel
        by_cases hlt : k < s.size
        · have hts := take_snoc s k hlt
          by_cases c1 : s[k].toNat < 48
          · have E1 := Lib.hid (parB_bad most (byte_mem s k hlt) (by have := dv_dec s[k]; omega) : parB s.data.toList most = false)
            clear hts
            go_wp2
            go_ret2
            exact parseEnd_no E1.out rfl (Below.refl _ _)
          · by_cases c2 : 57 < s[k].toNat
            · have E1 := Lib.hid (parB_bad most (byte_mem s k hlt) (by have := dv_dec s[k]; omega) : parB s.data.toList most = false)
              clear hts
              go_wp2
              go_ret2
              exact parseEnd_no E1.out rfl (Below.refl _ _)
            · have hdv := dv_of (c := s[k]) (by omega) (by omega)
              have hvt : valb 10 (s.data.toList.take (k + 1)) = 10 * v + (s[k].toNat - 48) := by rw [hts, valb_snoc, ← HV.out, hdv]; omega
              have HA2 := Lib.hid (show ∀ c ∈ s.data.toList.take (k + 1), dv c < 10 by
                rw [hts]; intro c hc
                rcases List.mem_append.1 hc with hc | hc
                · exact HA.out c hc
                · simp at hc; rw [hc, hdv]; omega)
              have hvb : 10 * v + (s[k].toNat - 48) < 10000000000000000000 := by
                rw [← hvt]; exact val_lt19 HA2.out (by have := List.length_take_le (k + 1) s.data.toList; have := List.length_take_le' (k + 1) s.data.toList; have := len_size s; omega)
              have HT := Lib.hid hvt
              clear hts hvt hdv
              go_wp2
              go_round
              case rel => exact ⟨k + 1, 10 * v + (s[k].toNat - 48), by omega, by go_num, by go_num, by omega, Lib.hid HT.out.symm, HA2⟩
              case measure => simp [intOf]; omega
        · have hV := HV.out
          rw [List.take_of_length_le (by rw [len_size]; omega)] at hV
          subst hV
          by_cases c3 : most < 0
          · have E1 := Lib.hid (parB_more (by omega) : parB s.data.toList most = false)
            go_wp2
            go_ret2
            exact parseEnd_no E1.out rfl (Below.refl _ _)
          · by_cases c4 : most < (valb 10 s.data.toList : Nat)
            · have E1 := Lib.hid (parB_more c4 : parB s.data.toList most = false)
              go_wp2
              go_ret2
              exact parseEnd_no E1.out rfl (Below.refl _ _)
            · by_cases c5 : digs 10 (valb 10 s.data.toList) = s.data.toList
              · have E1 := Lib.hid (parB_same c5 (by omega) : parB s.data.toList most = true)
                have hq : (digs 10 (valb 10 s.data.toList) == s.toList) = true := by rw [ByteArray.toList_eq]; simpa using c5
                clear c5
                go_wp2_with fail
                refine (digits_any (valb 10 s.data.toList) _ _ (by omega) (by omega) (by omega)).mono ?_
                rintro e w' ⟨rfl, hb⟩
                rw [Int.toNat_natCast]
                go_wp2
                go_ret2
                exact parseEnd_yes E1.out rfl hb
              · have E1 := Lib.hid (parB_digs c5 : parB s.data.toList most = false)
                have hq : (digs 10 (valb 10 s.data.toList) == s.toList) = false := by rw [ByteArray.toList_eq]; simpa using c5
                clear c5
                go_wp2_with fail
                refine (digits_any (valb 10 s.data.toList) _ _ (by omega) (by omega) (by omega)).mono ?_
                rintro e w' ⟨rfl, hb⟩
                rw [Int.toNat_natCast]
                go_wp2
                go_ret2
                exact parseEnd_no E1.out rfl hb
end Go.Proofs.YtokbifndhkijiaaDoor.Dec
