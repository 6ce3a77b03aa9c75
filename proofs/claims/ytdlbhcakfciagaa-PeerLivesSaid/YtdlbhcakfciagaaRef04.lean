/- Contracts of the document's answers for layer 4. -/
import Derived.Test.YtdlbhcakfciagaaIpv4
import Derived.Test.YtdlbhcakfciagaaRef02All
import Derived.Test.YtdlbhcakfciagaaRef03Split
namespace Go.Proofs.Ytdlbhcakfciagaa.V4
set_option maxRecDepth 100000
open Go.ChangeShapes Go.WideShapes Go.ChangeAt Go.RowKit
open Dec Words
set_option linter.unusedVariables false
theorem cat7 (a b c d : List UInt8) : Value.string (⟨a.toArray⟩ ++ ⟨#[46]⟩ ++ ⟨b.toArray⟩ ++ ⟨#[46]⟩ ++ ⟨c.toArray⟩ ++ ⟨#[46]⟩ ++ ⟨d.toArray⟩) = .string ⟨(glue 46 [a, b, c, d]).toArray⟩ := by
  show Value.string (⟨a.toArray⟩ ++ ⟨[46].toArray⟩ ++ ⟨b.toArray⟩ ++ ⟨[46].toArray⟩ ++ ⟨c.toArray⟩ ++ ⟨[46].toArray⟩ ++ ⟨d.toArray⟩) = _
  simp only [ByteArray.mk_append_mk, glue]
  simp
set_option maxHeartbeats 2000000 in
theorem rtext4_any (n : Nat) (w : World) (hn : n < 4294967296) :
    Calls Try.prog 51 #[.int .u32 n] w fun e w' => e = .returned (.string ⟨(text4 n).toArray⟩) ∧ Below w.heap.size w w' := by
  obtain ⟨a, ha⟩ : ∃ a, a = n / 16777216 % 256 := ⟨_, rfl⟩
  obtain ⟨b, hb⟩ : ∃ b, b = n / 65536 % 256 := ⟨_, rfl⟩
  obtain ⟨c, hc⟩ : ∃ c, c = n / 256 % 256 := ⟨_, rfl⟩
  obtain ⟨d, hd⟩ : ∃ d, d = n % 256 := ⟨_, rfl⟩
  have b1 : a < 256 := by omega
  have b2 : b < 256 := by omega
  have b3 : c < 256 := by omega
  have b4 : d < 256 := by omega
  have q1 := text_byte_len b1
  have q2 := text_byte_len b2
  have q3 := text_byte_len b3
  have q4 := text_byte_len b4
  have E1 : Hid ((n : Int) / 16777216 = (a : Int)) := Lib.hid (by omega)
  have E2 : Hid ((n : Int) / 65536 % 256 = (b : Int)) := Lib.hid (by omega)
  have E3 : Hid ((n : Int) / 256 % 256 = (c : Int)) := Lib.hid (by omega)
  have E4 : Hid ((n : Int) % 256 = (d : Int)) := Lib.hid (by omega)
  have ET : Hid (text4 n = glue 46 [text (a : Int), text (b : Int), text (c : Int), text (d : Int)]) := Lib.hid (by rw [text4, parts4, ha, hb, hc, hd])
  clear ha hb hc hd
  go_enter Try.func51, Try.ntmps51
  go_wp2_with fail
  rw [E1.out]
  refine (rtext_any _ _ (by omega) (by omega)).mono ?_
  rintro e w1 ⟨rfl, hb1⟩
  go_wp2_with fail
  rw [E2.out]
  refine (rtext_any _ _ (by omega) (by omega)).mono ?_
  rintro e w2 ⟨rfl, hb2⟩
  go_wp2_with fail
  rw [E3.out]
  refine (rtext_any _ _ (by omega) (by omega)).mono ?_
  rintro e w3 ⟨rfl, hb3⟩
  go_wp2_with fail
  rw [E4.out]
  refine (rtext_any _ _ (by omega) (by omega)).mono ?_
  rintro e w4 ⟨rfl, hb4⟩
  go_wp2_with fail
  go_ret
  exact ⟨by rw [ET.out]; exact congrArg Ending.returned (cat7 _ _ _ _), low_trans (low_trans (low_trans hb1 hb2) hb3) hb4⟩
theorem fold_step (ps : List (List UInt8)) (k : Nat) (hlt : k < ps.length) (m : Nat) (hm : m = val4 (ps.take k) % 4294967296) :
    256 * (m : Int) % 4294967296 + parN ps[k] 255 = ((val4 (ps.take (k + 1)) % 4294967296 : Nat) : Int) := by
  have hp := parN255 ps[k]
  rw [List.take_succ_eq_append_getElem hlt, val4_snoc, hm]
  omega
end Go.Proofs.Ytdlbhcakfciagaa.V4
