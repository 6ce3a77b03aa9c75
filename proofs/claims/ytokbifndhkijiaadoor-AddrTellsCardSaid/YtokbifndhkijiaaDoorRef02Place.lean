/- Contract of the document's answers for layer 2: where a byte stands. -/
import Derived.Test.YtokbifndhkijiaaDoorRef02
namespace Go.Proofs.YtokbifndhkijiaaDoor.Dec
set_option maxRecDepth 100000
open Go.ChangeShapes Go.WideShapes Go.ChangeAt Go.RowKit
set_option linter.unusedVariables false
/-- Where a byte stands first; -1 if nowhere. -/
def placeI (l : List UInt8) (c : UInt8) : Int := if c ∈ l then (l.idxOf c : Int) else -1
theorem placeI_at (s : ByteArray) (c : UInt8) (k : Nat) (h : k < s.size) (hn : ¬ c ∈ s.data.toList.take k) (hc : s[k] = c) : placeI s.data.toList c = k := by
  have e : s.data.toList = s.data.toList.take k ++ s.data.toList.drop k := (List.take_append_drop _ _).symm
  have hd : s.data.toList.drop k = c :: s.data.toList.drop (k + 1) := by
    rw [List.drop_eq_getElem_cons (by rw [len_size]; exact h), byte_get s k h, hc]
  unfold placeI
  have hm : c ∈ s.data.toList := by rw [← hc]; exact byte_mem s k h
  rw [if_pos hm]
  have : s.data.toList.idxOf c = k := by
    rw [e, List.idxOf_append, if_neg hn, hd]
    simp
    have := len_size s
    omega
  omega
theorem place_any (s : ByteArray) (c : UInt8) (w : World) (hs : s.size ≤ 9223372036854775807) :
    Calls Tryd.prog 60 #[.string s, .int .u8 (c.toNat : Int)] w fun e w' => e = .returned (.int .i64 (placeI s.data.toList c)) ∧ w = w' := by
  go_enter Tryd.func60, Tryd.ntmps60
  go_wp2
  go_loop [5] (fun i => ∃ k : Nat, k ≤ s.size ∧ i = .int .i64 k ∧ Hid (¬ c ∈ s.data.toList.take k)) (fun i => s.size - (intOf i).toNat)
  case atStart => exact ⟨0, Nat.zero_le _, rfl, Lib.hid (by simp)⟩
  case round =>
    obtain ⟨k, hk, rfl, HN⟩ := hrel
    by_cases hlt : k < s.size
    · by_cases hc : s[k] = c
      · have E := Lib.hid (placeI_at s c k hlt HN.out hc)
        have hb : ((s[k].toNat : Int) == (c.toNat : Int)) = true := by rw [hc]; simp
        clear hc
        go_wp2
        go_ret
        exact ⟨ret_i E.out.symm, rfl⟩
      · have hb : ((s[k].toNat : Int) == (c.toNat : Int)) = false := by
          rw [beq_eq_false_iff_ne]; intro e
          exact hc (UInt8.toNat_inj.1 (by omega))
        have HN2 : Hid (¬ c ∈ s.data.toList.take (k + 1)) := by
          rw [take_snoc s k hlt]; intro h
          rcases List.mem_append.1 h with h | h
          · exact HN.out h
          · simp at h; exact hc h.symm
        clear hc
        go_wp2
        go_round
        case rel => exact ⟨k + 1, by omega, by go_num, HN2⟩
        case measure => simp [intOf]; omega
    · have E : Hid (placeI s.data.toList c = -1) := by
        have := HN.out
        rw [List.take_of_length_le (by rw [len_size]; omega)] at this
        unfold placeI; exact if_neg this
      go_wp2
      go_ret
      exact ⟨ret_i E.out.symm, rfl⟩
end Go.Proofs.YtokbifndhkijiaaDoor.Dec
