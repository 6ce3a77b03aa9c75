/- Contracts of the document's answers for layer 4. -/
import Derived.Test.YtefkolkagebffaaGreatDoorIpv4
import Derived.Test.YtefkolkagebffaaGreatDoorRef02All
import Derived.Test.YtefkolkagebffaaGreatDoorRef03Split
namespace Go.Proofs.YtefkolkagebffaaGreatDoor.V4
set_option maxRecDepth 100000
open Go.ChangeShapes Go.WideShapes Go.ChangeAt Go.RowKit
open Dec Words
set_option linter.unusedVariables false
theorem cat7 (a b c d : List UInt8) : Value.string (⟨a.toArray⟩ ++ ⟨#[46]⟩ ++ ⟨b.toArray⟩ ++ ⟨#[46]⟩ ++ ⟨c.toArray⟩ ++ ⟨#[46]⟩ ++ ⟨d.toArray⟩) = .string ⟨(glue 46 [a, b, c, d]).toArray⟩ := by
  show Value.string (⟨a.toArray⟩ ++ ⟨[46].toArray⟩ ++ ⟨b.toArray⟩ ++ ⟨[46].toArray⟩ ++ ⟨c.toArray⟩ ++ ⟨[46].toArray⟩ ++ ⟨d.toArray⟩) = _
  simp only [ByteArray.mk_append_mk, glue]
  simp
theorem rparse_list (l : List UInt8) (most : Int) (w : World) (hs : l.length ≤ 9223372036854775807) (hm : -9223372036854775808 ≤ most) (hm2 : most ≤ 9223372036854775807) :
    Calls Tryz.prog 37 #[.string ⟨l.toArray⟩, .int .i64 most] w (ParseEnd l most w) := by
  have h := rparse_any ⟨l.toArray⟩ most w (by rw [← len_size, str_back]; exact hs) hm hm2
  rwa [str_back] at h
set_option maxHeartbeats 2000000 in
theorem rtext4_any (n : Nat) (w : World) (hn : n < 4294967296) :
    Calls Tryz.prog 124 #[.int .u32 n] w fun e w' => e = .returned (.string ⟨(text4 n).toArray⟩) ∧ Below w.heap.size w w' := by
  obtain ⟨a, ha⟩ : ∃ a, a = n / 16777216 % 256 := ⟨_, rfl⟩
  obtain ⟨b, hb⟩ : ∃ b, b = n / 65536 % 256 := ⟨_, rfl⟩
  obtain ⟨c, hc⟩ : ∃ c, c = n / 256 % 256 := ⟨_, rfl⟩
  obtain ⟨d, hd⟩ : ∃ d, d = n % 256 := ⟨_, rfl⟩
  have b1 : a < 256 := by omega
  have b2 : b < 256 := by omega
  have b3 : c < 256 := by omega
  have b4 : d < 256 := by omega
  have q1 := text_byte_len b1
  have q2 := text_byte_len b2
  have q3 := text_byte_len b3
  have q4 := text_byte_len b4
  have E1 : Hid ((n : Int) / 16777216 = (a : Int)) := Lib.hid (by omega)
  have E2 : Hid ((n : Int) / 65536 % 256 = (b : Int)) := Lib.hid (by omega)
  have E3 : Hid ((n : Int) / 256 % 256 = (c : Int)) := Lib.hid (by omega)
  have E4 : Hid ((n : Int) % 256 = (d : Int)) := Lib.hid (by omega)
  have ET : Hid (text4 n = glue 46 [text (a : Int), text (b : Int), text (c : Int), text (d : Int)]) := Lib.hid (by rw [text4, parts4, ha, hb, hc, hd])
  clear ha hb hc hd
  go_enter Tryz.func124, Tryz.ntmps124
  go_wp2_with fail
  rw [E1.out]
  refine (rtext_any _ _ (by omega) (by omega)).mono ?_
  rintro e w1 ⟨rfl, hb1⟩
  go_wp2_with fail
  rw [E2.out]
  refine (rtext_any _ _ (by omega) (by omega)).mono ?_
  rintro e w2 ⟨rfl, hb2⟩
  go_wp2_with fail
  rw [E3.out]
  refine (rtext_any _ _ (by omega) (by omega)).mono ?_
  rintro e w3 ⟨rfl, hb3⟩
  go_wp2_with fail
  rw [E4.out]
  refine (rtext_any _ _ (by omega) (by omega)).mono ?_
  rintro e w4 ⟨rfl, hb4⟩
  go_wp2_with fail
  go_ret
  exact ⟨by rw [ET.out]; exact congrArg Ending.returned (cat7 _ _ _ _), low_trans (low_trans (low_trans hb1 hb2) hb3) hb4⟩
theorem fold_step (ps : List (List UInt8)) (k : Nat) (hlt : k < ps.length) (m : Nat) (hm : m = val4 (ps.take k) % 4294967296) :
    256 * (m : Int) % 4294967296 + parN ps[k] 255 = ((val4 (ps.take (k + 1)) % 4294967296 : Nat) : Int) := by
  have hp := parN255 ps[k]
  rw [List.take_succ_eq_append_getElem hlt, val4_snoc, hm]
  omega
set_option maxHeartbeats 2000000 in
theorem rparse4_any (l : List UInt8) (w : World) (hl : l.length ≤ 9223372036854775807) :
    Calls Tryz.prog 113 #[.string ⟨l.toArray⟩] w (Parse4 l w) := by
  by_cases h15 : 15 < l.length
  · have E := Lib.hid (ok4_long h15)
    go_enter Tryz.func113, Tryz.ntmps113
    go_wp2
    go_ret2
    exact parse4_no E.out rfl (Below.refl _ _)
  · have HL : Hid (∀ p ∈ cut 46 l, p.length < 4294967281) := fun p hp => Nat.lt_of_le_of_lt (cut_part_le 46 l p hp) (by omega)
    have hcl : (cut 46 l).length ≤ 16 := by have := List.count_le_length (a := (46 : UInt8)) (l := l); rw [cut_len]; omega
    have HR := Lib.hid (rsplit_any ⟨l.toArray⟩ 46 w (by rw [← len_size, str_back]; omega))
    rw [str_back] at HR
    go_enter Tryz.func113, Tryz.ntmps113
    go_wp2_with fail
    refine HR.out.mono ?_
    rintro e w1 ⟨v, rfl, hv, hb1⟩
    obtain ⟨A, c, rfl, hcap, hcell⟩ := hv
    have HC := Lib.hid hcell
    clear hcell
    go_wp2
    go_loopw [5, 6] (fun n i wr => ∃ k m : Nat, k ≤ (cut 46 l).length ∧ i = .int .i64 k ∧ n = .int .u32 m ∧ m < 4294967296 ∧ Hid (m = val4 ((cut 46 l).take k) % 4294967296) ∧ Below w1.heap.size w1 wr) (fun _ i _ => (cut 46 l).length - (intOf i).toNat)
    case atStart => exact ⟨0, 0, Nat.zero_le _, rfl, rfl, by omega, Lib.hid rfl, Below.refl _ _⟩
    case round =>
      obtain ⟨k, m, hk, rfl, rfl, hm, HM, hbel⟩ := hrel
      by_cases hlt : k < (cut 46 l).length
      · obtain ⟨b, o, rfl, hb, hc⟩ := HC.out (by omega)
        have h1 := (hbel.cell (p := ⟨b, o + k, none⟩) hb).trans (hc k hlt)
        have hpl := HL.out _ (List.getElem_mem hlt)
        have hp := parN255 (cut 46 l)[k]
        have HS := Lib.hid (fold_step (cut 46 l) k hlt m HM.out)
        clear hc
        go_wp2_with fail
        refine (rparse_list (cut 46 l)[k] 255 _ (by omega) (by omega) (by omega)).mono ?_
        rintro e w2 ⟨rfl, hb2⟩
        go_wp2
        go_roundw
        case rel => exact ⟨k + 1, _, by omega, by go_num, by rw [HS.out], Nat.mod_lt _ (by omega), Lib.hid rfl, low_trans hbel hb2⟩
        case measure => simp [intOf]; omega
      · have HM2 : Hid (m = val4 (cut 46 l) % 4294967296) := by
          have := HM.out
          rwa [List.take_of_length_le (by omega)] at this
        by_cases hs : text4 m = l
        · have E := ok4_same hm hs
          have E1 := Lib.hid E.1
          have E2 := Lib.hid E.2
          have hb0 : (text4 m == l) = true := by simpa using hs
          clear hs E
          go_wp2_with fail
          refine (rtext4_any m _ hm).mono ?_
          rintro e w2 ⟨rfl, hb2⟩
          go_wp2
          go_ret2
          exact parse4_is E1.out E2.out rfl (low_trans hb1 (low_trans hbel hb2))
        · have E1 := Lib.hid (ok4_other HM2.out hs)
          have hb0 : (text4 m == l) = false := by simpa using hs
          clear hs
          go_wp2_with fail
          refine (rtext4_any m _ hm).mono ?_
          rintro e w2 ⟨rfl, hb2⟩
          go_wp2
          go_ret2
          exact parse4_no E1.out rfl (low_trans hb1 (low_trans hbel hb2))
end Go.Proofs.YtefkolkagebffaaGreatDoor.V4
