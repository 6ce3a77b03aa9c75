/- Contracts of package words: lines. -/
import Derived.Test.YtefkolkagebffaaGreatDoorWordsAll
namespace Go.Proofs.YtefkolkagebffaaGreatDoor.Words
set_option maxRecDepth 100000
open Go.ChangeShapes Go.WideShapes Go.ChangeAt Go.RowKit
set_option linter.unusedVariables false
theorem row_any (v : Value) (ls : List (List UInt8)) (w : World) (h : Txts w v ls) (hN : ls.length ≤ 140737488355328) (hlen : (glue 32 ls).length ≤ 140737488355328) :
    Calls Tryz.prog 40 #[v] w fun e w' => e = .returned (.string ⟨(glue 32 ls).toArray⟩) ∧ Below w.heap.size w w' := by
  go_enter Tryz.func40, Tryz.ntmps40
  go_wp2_with fail
  refine (join_any v ls 32 _ h hN hlen).mono ?_
  rintro e w2 ⟨rfl, hb2⟩
  go_wp2_with fail
  go_ret
  exact ⟨rfl, hb2⟩
theorem long_any (s : ByteArray) (w : World) (hs : s.size ≤ 9223372036854775807) :
    Calls Tryz.prog 27 #[.string s] w fun e w' => e = .returned (.bool (longB s.data.toList)) ∧ Below w.heap.size w w' := by
  by_cases h1 : 65536 < s.size
  · have E := Lib.hid (longB_size (l := s.data.toList) (by rw [len_size]; exact h1))
    go_enter Tryz.func27, Tryz.ntmps27
    go_wp2
    go_ret
    exact ⟨ret_b E.out.symm, Below.refl _ _⟩
  · have hle : Lib.countByte s.data.toList 10 ≤ s.size := List.count_le_length
    by_cases h2 : 4096 < Lib.countByte s.data.toList 10
    · have E := Lib.hid (longB_count h2)
      go_enter Tryz.func27, Tryz.ntmps27
      go_wp2_with fail
      refine (alone_any 10 _).mono ?_
      rintro e w1 ⟨rfl, hb1⟩
      go_wp2_with fail
      refine (Tryz.strings_Count_one s 10 _).mono ?_
      rintro e w' ⟨rfl, rfl⟩
      go_wp2_with fail
      go_ret
      exact ⟨ret_b (by rw [E.out]; simp only [Bool.or_eq_true, decide_eq_true_eq]; omega), hb1⟩
    · have E := Lib.hid (longB_not (l := s.data.toList) (by rw [len_size]; exact h1) h2)
      go_enter Tryz.func27, Tryz.ntmps27
      go_wp2_with fail
      refine (alone_any 10 _).mono ?_
      rintro e w1 ⟨rfl, hb1⟩
      go_wp2_with fail
      refine (Tryz.strings_Count_one s 10 _).mono ?_
      rintro e w' ⟨rfl, rfl⟩
      go_wp2_with fail
      go_ret
      exact ⟨ret_b (by rw [E.out]; simp only [Bool.or_eq_false_iff, decide_eq_false_iff_not]; omega), hb1⟩
theorem last_byte (s : ByteArray) (h : 0 < s.size) : s.data.toList.getLast? = some (s[s.size - 1]'(by omega)) := by
  rw [List.getLast?_eq_getElem?, len_size, List.getElem?_eq_getElem (by rw [len_size]; omega), byte_get s _ (by omega)]
set_option maxHeartbeats 2000000 in
theorem formed_any (s : ByteArray) (w : World) (hs : s.size ≤ 9223372036854775807) :
    Calls Tryz.prog 28 #[.string s] w fun e w' => e = .returned (.bool (formB s.data.toList)) ∧ w = w' := by
  go_enter Tryz.func28, Tryz.ntmps28
  go_wp2
  go_loop [6] (fun i => ∃ k : Nat, k ≤ s.size ∧ i = .int .i64 k ∧ Hid (∀ c ∈ s.data.toList.take k, lineC c = true)) (fun i => s.size - (intOf i).toNat)
  case atStart => exact ⟨0, Nat.zero_le _, rfl, Lib.hid (by simp)⟩
  case round =>
    obtain ⟨k, hk, rfl, HA⟩ := hrel
    by_cases hlt : k < s.size
    · by_cases hc : s[k].toNat = 10 ∨ (32 ≤ s[k].toNat ∧ s[k].toNat ≤ 126)
      · have HA2 : Hid (∀ c ∈ s.data.toList.take (k + 1), lineC c = true) := by
          rw [take_snoc s k hlt]
          intro c h
          rcases List.mem_append.1 h with h | h
          · exact HA.out c h
          · simp at h; subst h; exact (lineC_iff _).2 hc
        rcases hc with hc | ⟨hc, hc2⟩
        · have hb : ((s[k].toNat : Int) == 10) = true := by rw [hc]; rfl
          have hb2 : ((s[k].toNat : Int) != 10) = false := by rw [hc]; rfl
          clear hc
          go_wp2
          go_round
          case rel => exact ⟨k + 1, by omega, by go_num, HA2⟩
          case measure => simp [intOf]; omega
        · by_cases h10 : s[k].toNat = 10
          · exact absurd h10 (by omega)
          have hb : ((s[k].toNat : Int) == 10) = false := by rw [beq_eq_false_iff_ne]; omega
          have hb2 : ((s[k].toNat : Int) != 10) = true := by rw [bne_iff_ne]; omega
          clear h10
          go_wp2
          go_round
          case rel => exact ⟨k + 1, by omega, by go_num, HA2⟩
          case measure => simp [intOf]; omega
      · have E := Lib.hid (formB_bad (byte_mem s k hlt) (lineC_no hc))
        have hb : ((s[k].toNat : Int) == 10) = false := by rw [beq_eq_false_iff_ne]; omega
        have hb2 : ((s[k].toNat : Int) != 10) = true := by rw [bne_iff_ne]; omega
        by_cases h3 : s[k].toNat < 32
        · clear hc
          go_wp2
          go_ret
          exact ⟨ret_b E.out.symm, rfl⟩
        · have h4 : 126 < s[k].toNat := by omega
          clear hc
          go_wp2
          go_ret
          exact ⟨ret_b E.out.symm, rfl⟩
    · have hA := HA.out
      rw [List.take_of_length_le (by rw [len_size]; omega)] at hA
      by_cases hz : s.size = 0
      · have hn : s.data.toList = [] := List.eq_nil_of_length_eq_zero (by rw [len_size]; exact hz)
        have E : Hid (formB s.data.toList = true) := by rw [hn]; exact formB_nil
        have e0 : s.toList = [] := by rw [ByteArray.toList_eq]; exact hn
        clear hn hA hz
        go_wp2
        go_ret
        exact ⟨ret_b E.out.symm, rfl⟩
      · have hne : s.data.toList ≠ [] := by intro e; have := len_size s; rw [e] at this; simp at this; omega
        have e0 : (s.toList == []) = false := by rw [ByteArray.toList_eq]; simpa using hne
        have e2 : s.toList.isEmpty = false := by rw [ByteArray.toList_eq]; simpa using hne
        have hp : 0 < s.size := by omega
        have hl := last_byte s hp
        by_cases hc : s[s.size - 1]'(Nat.sub_lt hp Nat.one_pos) = 10
        · have E := Lib.hid (formB_yes hA (by rw [hl, hc]))
          have hb : (((s[s.size - 1]'(Nat.sub_lt hp Nat.one_pos)).toNat : Int) == 10) = true := by rw [hc]; rfl
          clear hA hl hc hne hz
          go_wp2
          go_ret
          exact ⟨ret_b E.out.symm, rfl⟩
        · have E := Lib.hid (formB_end hne (by rw [hl]; intro e; injection e with e; exact hc e))
          have hb : (((s[s.size - 1]'(Nat.sub_lt hp Nat.one_pos)).toNat : Int) == 10) = false := by
            rw [beq_eq_false_iff_ne]; intro e
            exact hc (UInt8.toNat_inj.1 (by have : (10 : UInt8).toNat = 10 := rfl; omega))
          clear hA hl hc hne hz
          go_wp2
          go_ret
          exact ⟨ret_b E.out.symm, rfl⟩
def LinesEnd (l : List UInt8) (w : World) (e : Ending) (w' : World) : Prop := ∃ v, e = .returned (.tuple #[v, .int .i64 (lineE l)]) ∧ Txts w' v (lineL l) ∧ Below w.heap.size w w'
theorem lines_no {l : List UInt8} {w w' : World} {n : Int} (h : lineE l = n) (hn : n ≠ 0) (hb : Below w.heap.size w w') : LinesEnd l w (.returned (.tuple #[.slice none 0 0, .int .i64 n])) w' :=
  ⟨.slice none 0 0, by rw [h], by rw [lineL_no (by rw [h]; exact hn)]; exact Txts.nil _, hb⟩
theorem lines_yes {l : List UInt8} {w w' : World} {A : Option Addr} {c n : Nat} (h : lineE l = 0) (ht : Txts w' (.slice A (cut 10 l).length c) (cut 10 l)) (hn : n + 1 = (cut 10 l).length) (hb : Below w.heap.size w w') : LinesEnd l w (.returned (.tuple #[.slice A n c, .int .i64 0])) w' := by
  refine ⟨.slice A n c, by rw [h], ?_, hb⟩
  rw [lineL_ok h]
  obtain ⟨A2, c2, he, hc, hcell⟩ := ht
  injection he with e1 e2 e3
  subst e1; subst e3
  have hl : (cut 10 l).dropLast.length = n := by rw [List.length_dropLast]; omega
  refine ⟨A, c, by rw [hl], by rw [hl]; omega, fun hp => ?_⟩
  obtain ⟨b, o, rfl, hb, hcc⟩ := hcell (by omega)
  refine ⟨b, o, rfl, hb, fun j hj => ?_⟩
  rw [hcc j (by omega), List.getElem_dropLast]
theorem lines_any (s : ByteArray) (w : World) (hs : s.size ≤ 9223372036854775807) :
    Calls Tryz.prog 12 #[.string s] w (LinesEnd s.data.toList w) := by
  cases h1 : longB s.data.toList
  · cases h2 : formB s.data.toList
    · go_enter Tryz.func12, Tryz.ntmps12
      go_wp2_with fail
      refine (long_any s _ hs).mono ?_
      rintro e w1 ⟨rfl, hb1⟩
      go_wp2_with fail
      refine (formed_any s _ hs).mono ?_
      rintro e w' ⟨rfl, rfl⟩
      go_wp2_with fail
      go_ret2
      exact lines_no (lineE_form h1 h2) (by decide) hb1
    · have hsz := (longB_no h1).1
      rw [len_size] at hsz
      have hn : 1 ≤ (cut 10 s.data.toList).length := by rw [cut_len]; omega
      have hn2 : (cut 10 s.data.toList).length ≤ 4097 := by rw [cut_len]; have := (longB_no h1).2; omega
      go_enter Tryz.func12, Tryz.ntmps12
      go_wp2_with fail
      refine (long_any s _ hs).mono ?_
      rintro e w1 ⟨rfl, hb1⟩
      go_wp2_with fail
      refine (formed_any s _ hs).mono ?_
      rintro e w' ⟨rfl, rfl⟩
      go_wp2_with fail
      refine (split_any s 10 _ (by omega)).mono ?_
      rintro e w2 ⟨v, rfl, hv, hb2⟩
      have HV := Lib.hid hv
      obtain ⟨A, c, rfl, hcap, hcell⟩ := hv
      clear hcell
      go_wp2_with fail
      go_ret2
      exact lines_yes (lineE_ok h1 h2) HV.out (by omega) (low_trans hb1 hb2)
  · go_enter Tryz.func12, Tryz.ntmps12
    go_wp2_with fail
    refine (long_any s _ hs).mono ?_
    rintro e w1 ⟨rfl, hb1⟩
    go_wp2_with fail
    go_ret2
    exact lines_no (lineE_long h1) (by decide) hb1
end Go.Proofs.YtefkolkagebffaaGreatDoor.Words
