/- Contract of the document's answers for layer 3: what is put together. -/
import Derived.Test.YtefkolkagebffaaGreatDoorRef03Split
import Derived.OwnWalk
import Derived.Test.YtefkolkagebffaaGreatDoorWordsLines
namespace Go.Proofs.YtefkolkagebffaaGreatDoor.Words
set_option maxRecDepth 100000
open Go.ChangeShapes Go.WideShapes Go.ChangeAt Go.RowKit
set_option linter.unusedVariables false
theorem cat2 {a b d : List UInt8} (h : a ++ b = d) : Value.string (⟨a.toArray⟩ ++ ⟨b.toArray⟩) = .string ⟨d.toArray⟩ := by rw [ByteArray.mk_append_mk, h]
theorem cat3 {a b d : List UInt8} {c : UInt8} (h : a ++ c :: b = d) : Value.string (⟨a.toArray⟩ ++ ⟨#[c]⟩ ++ ⟨b.toArray⟩) = .string ⟨d.toArray⟩ := by
  show Value.string (⟨a.toArray⟩ ++ ⟨[c].toArray⟩ ++ ⟨b.toArray⟩) = _
  rw [ByteArray.mk_append_mk, ByteArray.mk_append_mk, ← h]; simp
theorem glue_first (c : UInt8) (ls : List (List UInt8)) (h : 0 < ls.length) : glue c (ls.take 1) = ls[0] := by
  rw [List.take_succ_eq_append_getElem h]; rfl
theorem glue_next (c : UInt8) (ls : List (List UInt8)) (k : Nat) (h : k < ls.length) (h0 : k ≠ 0) : glue c (ls.take (k + 1)) = glue c (ls.take k) ++ c :: ls[k] := by
  rw [List.take_succ_eq_append_getElem h, glue_snoc c _ (by intro e; rw [List.take_eq_nil_iff] at e; rcases e with e | e; exact h0 e; subst e; simp at h)]
end Go.Proofs.YtefkolkagebffaaGreatDoor.Words
/- Contract of the document's answers for layer 3: lines. -/
namespace Go.Proofs.YtefkolkagebffaaGreatDoor.Words
set_option maxRecDepth 100000
open Go.ChangeShapes Go.WideShapes Go.ChangeAt Go.RowKit
set_option linter.unusedVariables false
set_option maxHeartbeats 4000000 in
theorem rlines_any (s : ByteArray) (w : World) (hs : s.size ≤ 9223372036854775807) :
    Calls Tryz.prog 15 #[.string s] w (LinesEnd s.data.toList w) := by
  by_cases h1 : 65536 < s.size
  · have E := Lib.hid (lineE_long (longB_size (l := s.data.toList) (by rw [len_size]; exact h1)))
    go_enter Tryz.func15, Tryz.ntmps15
    go_wp2
    go_ret2
    exact lines_no E.out (by decide) (Below.refl _ _)
  · go_enter Tryz.func15, Tryz.ntmps15
    go_wp2
    go_loop [4, 5, 6] (fun n b i => ∃ k m : Nat, ∃ q : Bool, k ≤ s.size ∧ m ≤ k ∧ i = .int .i64 k ∧ n = .int .i64 m ∧ b = .bool q ∧ Hid (m = (s.data.toList.take k).count 10) ∧ Hid (q = wrongB (s.data.toList.take k))) (fun _ _ i => s.size - (intOf i).toNat)
    case atStart => exact ⟨0, 0, false, Nat.zero_le _, Nat.le_refl _, rfl, rfl, rfl, Lib.hid rfl, Lib.hid rfl⟩
    case round =>
      obtain ⟨k, m, q, hk, hm, rfl, rfl, rfl, HM, HQ⟩ := hrel
      by_cases hlt : k < s.size
      · have hts := take_snoc s k hlt
        by_cases c1 : s[k].toNat = 10
        · have e10 : s[k] = 10 := UInt8.toNat_inj.1 c1
          have HM2 : Hid (m + 1 = (s.data.toList.take (k + 1)).count 10) := by rw [hts, e10, List.count_append, ← HM.out]; rfl
          have HQ2 : Hid (q = wrongB (s.data.toList.take (k + 1))) := by rw [hts, wrongB_ok ((lineC_iff _).2 (Or.inl c1))]; exact HQ.out
          have hb : ((s[k].toNat : Int) == 10) = true := by rw [c1]; rfl
          clear hts c1 e10
          go_wp2
          go_round
          case rel => exact ⟨k + 1, m + 1, q, by omega, by omega, by go_num, by go_num, rfl, HM2, HQ2⟩
          case measure => simp [intOf]; omega
        · have HM2 : Hid (m = (s.data.toList.take (k + 1)).count 10) := by
            rw [hts, List.count_append, ← HM.out]
            rw [List.count_eq_zero.2 (show (10 : UInt8) ∉ [s[k]] by simp; intro e; exact c1 (by rw [← e]; rfl))]; rfl
          have hb : ((s[k].toNat : Int) == 10) = false := by rw [beq_eq_false_iff_ne]; omega
          by_cases c2 : 32 ≤ s[k].toNat ∧ s[k].toNat ≤ 126
          · have HQ2 : Hid (q = wrongB (s.data.toList.take (k + 1))) := by rw [hts, wrongB_ok ((lineC_iff _).2 (Or.inr c2))]; exact HQ.out
            obtain ⟨c2, c3⟩ := c2
            clear hts
            go_wp2
            go_round
            case rel => exact ⟨k + 1, m, q, by omega, by omega, by go_num, rfl, rfl, HM2, HQ2⟩
            case measure => simp [intOf]; omega
          · have HQ2 : Hid (true = wrongB (s.data.toList.take (k + 1))) := by rw [hts, wrongB_bad (lineC_no (by omega))]; exact Lib.hid rfl
            clear hts
            by_cases c3 : s[k].toNat < 32
            · clear c2
              go_wp2
              go_round
              case rel => exact ⟨k + 1, m, true, by omega, by omega, by go_num, rfl, rfl, HM2, HQ2⟩
              case measure => simp [intOf]; omega
            · have c4 : 126 < s[k].toNat := by omega
              clear c2
              go_wp2
              go_round
              case rel => exact ⟨k + 1, m, true, by omega, by omega, by go_num, rfl, rfl, HM2, HQ2⟩
              case measure => simp [intOf]; omega
      · have hM := HM.out
        have hQ := HQ.out
        rw [List.take_of_length_le (by rw [len_size]; omega)] at hM hQ
        by_cases c1 : 4096 < m
        · have E := Lib.hid (lineE_long (longB_count (l := s.data.toList) (by omega)))
          clear hM hQ
          go_wp2
          go_ret2
          exact lines_no E.out (by decide) (Below.refl _ _)
        · have hlb := longB_not (l := s.data.toList) (by rw [len_size]; exact h1) (by omega)
          have HM3 := Lib.hid hM
          clear hM
          cases q
          · have hA := all_of_wrongB hQ.symm
            have hn : 1 ≤ (cut 10 s.data.toList).length := by rw [cut_len]; omega
            have hn2 : (cut 10 s.data.toList).length ≤ 4097 := by rw [cut_len, ← HM3.out]; omega
            by_cases hz : s.size = 0
            · have hnl : s.data.toList = [] := List.eq_nil_of_length_eq_zero (by rw [len_size]; exact hz)
              have E := Lib.hid (lineE_ok hlb (by rw [hnl]; rfl))
              have e0 : s.toList = [] := by rw [ByteArray.toList_eq]; exact hnl
              clear hnl hA hQ hlb hz
              go_wp2_with fail
              refine (rsplit_any s 10 _ (by omega)).mono ?_
              rintro e w2 ⟨v, rfl, hv, hb2⟩
              have HV := Lib.hid hv
              obtain ⟨A, c, rfl, hcap, hcell⟩ := hv
              clear hcell
              go_wp2_with fail
              go_ret2
              exact lines_yes E.out HV.out (by omega) hb2
            · have hne : s.data.toList ≠ [] := by intro e; have := len_size s; rw [e] at this; simp at this; omega
              have e0 : (s.toList == []) = false := by rw [ByteArray.toList_eq]; simpa using hne
              have e2 : s.toList.isEmpty = false := by rw [ByteArray.toList_eq]; simpa using hne
              have hp : 0 < s.size := by omega
              have hl := last_byte s hp
              by_cases hc : s[s.size - 1]'(Nat.sub_lt hp Nat.one_pos) = 10
              · have E := Lib.hid (lineE_ok hlb (formB_yes hA (by rw [hl, hc])))
                have hb : (((s[s.size - 1]'(Nat.sub_lt hp Nat.one_pos)).toNat : Int) == 10) = true := by rw [hc]; rfl
                have hb2 : (((s[s.size - 1]'(Nat.sub_lt hp Nat.one_pos)).toNat : Int) != 10) = false := by rw [hc]; rfl
                clear hA hl hc hne hz hQ hlb
                go_wp2_with fail
                refine (rsplit_any s 10 _ (by omega)).mono ?_
                rintro e w2 ⟨v, rfl, hv, hb2⟩
                have HV := Lib.hid hv
                obtain ⟨A, c, rfl, hcap, hcell⟩ := hv
                clear hcell
                go_wp2_with fail
                go_ret2
                exact lines_yes E.out HV.out (by omega) hb2
              · have E := Lib.hid (lineE_form hlb (formB_end hne (by rw [hl]; intro e; injection e with e; exact hc e)))
                have hb : (((s[s.size - 1]'(Nat.sub_lt hp Nat.one_pos)).toNat : Int) == 10) = false := by
                  rw [beq_eq_false_iff_ne]; intro e
                  exact hc (UInt8.toNat_inj.1 (by have : (10 : UInt8).toNat = 10 := rfl; omega))
                have hb2 : (((s[s.size - 1]'(Nat.sub_lt hp Nat.one_pos)).toNat : Int) != 10) = true := by
                  rw [bne_iff_ne]; intro e
                  exact hc (UInt8.toNat_inj.1 (by have : (10 : UInt8).toNat = 10 := rfl; omega))
                clear hA hl hc hne hz hQ hlb
                go_wp2
                go_ret2
                exact lines_no E.out (by decide) (Below.refl _ _)
          · have E := Lib.hid (lineE_form hlb (formB_wrong hQ.symm))
            clear hQ hlb
            go_wp2
            go_ret2
            exact lines_no E.out (by decide) (Below.refl _ _)
end Go.Proofs.YtefkolkagebffaaGreatDoor.Words
