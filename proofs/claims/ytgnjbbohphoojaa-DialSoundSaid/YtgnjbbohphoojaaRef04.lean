/- Contracts of package ipv4. -/
import Derived.Test.YtgnjbbohphoojaaMath
import Derived.Test.YtgnjbbohphoojaaDecAll
import Derived.Test.YtgnjbbohphoojaaWordsAll
import Derived.Deep.OwnRows
import Derived.Laws.BitsAllLaws
import Derived.Test.YtgnjbbohphoojaaRef02All
import Derived.Test.YtgnjbbohphoojaaRef03Split
namespace Go.Proofs.Ytgnjbbohphoojaa.V4
set_option maxRecDepth 100000
open Go.ChangeShapes Go.WideShapes Go.ChangeAt Go.RowKit
open Dec Words
set_option linter.unusedVariables false
def Parse4 (l : List UInt8) (w : World) (e : Ending) (w' : World) : Prop := e = .returned (.tuple #[.int .u32 (num4 l), .bool (ok4 l)]) ∧ Below w.heap.size w w'
theorem parse4_no {l : List UInt8} {w w' : World} {e : Ending} (h : ok4 l = false) (he : e = .returned (.tuple #[.int .u32 0, .bool false])) (hb : Below w.heap.size w w') : Parse4 l w e w' :=
  ⟨by rw [num4_no h, h]; exact he, hb⟩
theorem parse4_yes {l : List UInt8} {w w' : World} {e : Ending} {n : Nat} (h : ok4 l = true) (hn : n = val4 (cut 46 l)) (he : e = .returned (.tuple #[.int .u32 n, .bool true])) (hb : Below w.heap.size w w') : Parse4 l w e w' :=
  ⟨by rw [num4_of h, h, ← hn]; exact he, hb⟩
theorem parse4_is {l : List UInt8} {w w' : World} {e : Ending} {n : Nat} (h : ok4 l = true) (hn : num4 l = n) (he : e = .returned (.tuple #[.int .u32 n, .bool true])) (hb : Below w.heap.size w w') : Parse4 l w e w' :=
  ⟨by rw [hn, h]; exact he, hb⟩
theorem step4 (ps : List (List UInt8)) (k : Nat) (hlt : k < ps.length) (h3 : k ≤ 3) :
    Value.int .u32 (bits .or .u32 ((val4 (ps.take k) : Nat) * 256 : Int) (parN ps[k] 255)) = .int .u32 (val4 (ps.take (k + 1)) : Nat) := by
  have hv := val4_take_lt ps k h3
  have hp := parN255 ps[k]
  obtain ⟨b, hb⟩ := Int.eq_ofNat_of_zero_le hp.1
  have e : ((val4 (ps.take k) : Nat) * 256 : Int) = ((val4 (ps.take k) * 256 : Nat) : Int) := by omega
  rw [List.take_succ_eq_append_getElem hlt, val4_snoc, hb, e, u32_or_nat _ _ (by omega) (by omega), shl_or (by omega), Int.toNat_natCast]
/-- The parts that are written so far, from the end on. -/
def cells4 (n k : Nat) (i : Nat) : Value := if 4 - k ≤ i then .string ⟨((parts4 n).getD i []).toArray⟩ else .string ⟨#[]⟩
theorem empty4 (i : Nat) (hi : i < 4) : (#[Value.string ⟨#[]⟩, .string ⟨#[]⟩, .string ⟨#[]⟩, .string ⟨#[]⟩] : Array Value)[i]? = some (cells4 0 0 i) := by
  have e : (#[Value.string ⟨#[]⟩, .string ⟨#[]⟩, .string ⟨#[]⟩, .string ⟨#[]⟩] : Array Value) = Array.replicate 4 (.string ⟨#[]⟩) := rfl
  rw [e, Array.getElem?_replicate, if_pos hi]
  unfold cells4
  rw [if_neg (by omega)]
theorem and255 (m : Nat) (h : m < 4294967296) : wrap64 (bits .and .u32 (m : Int) 255) = ((m % 256 : Nat) : Int) := by
  have e := u32_and_nat m 255 h (by omega)
  have e2 : m &&& 255 = m % 256 := Nat.and_two_pow_sub_one_eq_mod m 8
  rw [show ((255 : Nat) : Int) = 255 from rfl] at e
  rw [e, e2]
  unfold wrap64; omega
theorem parts4_at (n k : Nat) (h : k < 4) : (parts4 n).getD (3 - k) [] = text ((n / 256 ^ k % 256 : Nat) : Int) := by
  have : k = 0 ∨ k = 1 ∨ k = 2 ∨ k = 3 := by omega
  rcases this with rfl | rfl | rfl | rfl <;> simp [parts4]
theorem cells4_next (n k : Nat) (h : k < 4) (i : Nat) : (if i = 3 - k then Value.string ⟨(text ((n / 256 ^ k % 256 : Nat) : Int)).toArray⟩ else cells4 n k i) = cells4 n (k + 1) i := by
  by_cases e : i = 3 - k
  · subst e
    rw [if_pos rfl, ← parts4_at n k h]
    unfold cells4
    rw [if_pos (by omega)]
  · rw [if_neg e]
    unfold cells4
    by_cases e2 : 4 - k ≤ i
    · rw [if_pos e2, if_pos (by omega)]
    · rw [if_neg e2, if_neg (by omega)]
theorem cells4_all (n : Nat) : ∀ j (h : j < (parts4 n).length), cells4 n 4 j = .string ⟨(parts4 n)[j].toArray⟩ := by
  intro j h
  unfold cells4
  rw [if_pos (by omega), List.getD, List.getElem?_eq_getElem h]; rfl
end Go.Proofs.Ytgnjbbohphoojaa.V4
/- Contracts of the document's answers for layer 4. -/
namespace Go.Proofs.Ytgnjbbohphoojaa.V4
set_option maxRecDepth 100000
open Go.ChangeShapes Go.WideShapes Go.ChangeAt Go.RowKit
open Dec Words
set_option linter.unusedVariables false
theorem cat7 (a b c d : List UInt8) : Value.string (⟨a.toArray⟩ ++ ⟨#[46]⟩ ++ ⟨b.toArray⟩ ++ ⟨#[46]⟩ ++ ⟨c.toArray⟩ ++ ⟨#[46]⟩ ++ ⟨d.toArray⟩) = .string ⟨(glue 46 [a, b, c, d]).toArray⟩ := by
  show Value.string (⟨a.toArray⟩ ++ ⟨[46].toArray⟩ ++ ⟨b.toArray⟩ ++ ⟨[46].toArray⟩ ++ ⟨c.toArray⟩ ++ ⟨[46].toArray⟩ ++ ⟨d.toArray⟩) = _
  simp only [ByteArray.mk_append_mk, glue]
  simp
theorem fold_step (ps : List (List UInt8)) (k : Nat) (hlt : k < ps.length) (m : Nat) (hm : m = val4 (ps.take k) % 4294967296) :
    256 * (m : Int) % 4294967296 + parN ps[k] 255 = ((val4 (ps.take (k + 1)) % 4294967296 : Nat) : Int) := by
  have hp := parN255 ps[k]
  rw [List.take_succ_eq_append_getElem hlt, val4_snoc, hm]
  omega
end Go.Proofs.Ytgnjbbohphoojaa.V4
