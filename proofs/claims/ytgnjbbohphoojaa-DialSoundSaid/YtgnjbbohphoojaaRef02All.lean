/- Contracts of the document's answers for layer 2. -/
import Derived.Test.YtgnjbbohphoojaaKit
import Derived.Test.YtgnjbbohphoojaaMath
import Derived.Laws.IdiomStrings
namespace Go.Proofs.Ytgnjbbohphoojaa.Dec
set_option maxRecDepth 100000
open Go.ChangeShapes Go.WideShapes Go.ChangeAt Go.RowKit
set_option linter.unusedVariables false
theorem digit_dec (n : Nat) : (48 + (n : Int) % 10) = ((digit (n % 10)).toNat : Int) := by
  have h : n % 10 < 10 := Nat.mod_lt _ (by omega)
  have : ∀ d : Fin 10, (digit d.val).toNat = 48 + d.val := by decide
  have := this ⟨n % 10, h⟩
  simp only [] at this
  omega
end Go.Proofs.Ytgnjbbohphoojaa.Dec
/- Contracts of the document's answers for layer 2: what is read. -/
namespace Go.Proofs.Ytgnjbbohphoojaa.Dec
set_option maxRecDepth 100000
open Go.ChangeShapes Go.WideShapes Go.ChangeAt Go.RowKit
set_option linter.unusedVariables false
def ParseEnd (l : List UInt8) (most : Int) (w : World) (e : Ending) (w' : World) : Prop := e = .returned (.tuple #[.int .i64 (parN l most), .bool (parB l most)]) ∧ Below w.heap.size w w'
theorem parseEnd_no {l : List UInt8} {most : Int} {w w' : World} {e : Ending} (h : parB l most = false) (he : e = .returned (.tuple #[.int .i64 0, .bool false])) (hb : Below w.heap.size w w') : ParseEnd l most w e w' :=
  ⟨by rw [parN_no h, h]; exact he, hb⟩
theorem parseEnd_yes {l : List UInt8} {most : Int} {w w' : World} {e : Ending} (h : parB l most = true) (he : e = .returned (.tuple #[.int .i64 (valb 10 l : Nat), .bool true])) (hb : Below w.heap.size w w') : ParseEnd l most w e w' :=
  ⟨by rw [parN_of h, h]; exact he, hb⟩
end Go.Proofs.Ytgnjbbohphoojaa.Dec
/- Contract of the document's answers for layer 2: where a byte stands. -/
namespace Go.Proofs.Ytgnjbbohphoojaa.Dec
set_option maxRecDepth 100000
open Go.ChangeShapes Go.WideShapes Go.ChangeAt Go.RowKit
set_option linter.unusedVariables false
/-- Where a byte stands first; -1 if nowhere. -/
def placeI (l : List UInt8) (c : UInt8) : Int := if c ∈ l then (l.idxOf c : Int) else -1
theorem placeI_at (s : ByteArray) (c : UInt8) (k : Nat) (h : k < s.size) (hn : ¬ c ∈ s.data.toList.take k) (hc : s[k] = c) : placeI s.data.toList c = k := by
  have e : s.data.toList = s.data.toList.take k ++ s.data.toList.drop k := (List.take_append_drop _ _).symm
  have hd : s.data.toList.drop k = c :: s.data.toList.drop (k + 1) := by
    rw [List.drop_eq_getElem_cons (by rw [len_size]; exact h), byte_get s k h, hc]
  unfold placeI
  have hm : c ∈ s.data.toList := by rw [← hc]; exact byte_mem s k h
  rw [if_pos hm]
  have : s.data.toList.idxOf c = k := by
    rw [e, List.idxOf_append, if_neg hn, hd]
    simp
    have := len_size s
    omega
  omega
end Go.Proofs.Ytgnjbbohphoojaa.Dec
/- Contracts of the document's answers for layer 2: base 16. -/
namespace Go.Proofs.Ytgnjbbohphoojaa.Dec
set_option maxRecDepth 100000
open Go.ChangeShapes Go.WideShapes Go.ChangeAt Go.RowKit
set_option linter.unusedVariables false
def lowI (c : UInt8) : Int := if dv c < 16 ∧ ¬ (65 ≤ c.toNat ∧ c.toNat ≤ 70) then dv c else -1
def upI (c : UInt8) : Int := if dv c < 16 ∧ ¬ (97 ≤ c.toNat ∧ c.toNat ≤ 102) then dv c else -1
theorem byteAll (P : UInt8 → Prop) (h : ∀ d : Fin 256, P (UInt8.ofNat d.val)) (c : UInt8) : P c := by
  have h1 := h ⟨c.toNat, c.toNat_lt⟩
  simp only [UInt8.ofNat_toNat] at h1
  exact h1
theorem place_low (c : UInt8) : placeI [48, 49, 50, 51, 52, 53, 54, 55, 56, 57, 97, 98, 99, 100, 101, 102] c = lowI c :=
  byteAll (fun c => placeI [48, 49, 50, 51, 52, 53, 54, 55, 56, 57, 97, 98, 99, 100, 101, 102] c = lowI c) (by decide +kernel) c
theorem place_up (c : UInt8) : placeI [48, 49, 50, 51, 52, 53, 54, 55, 56, 57, 65, 66, 67, 68, 69, 70] c = upI c :=
  byteAll (fun c => placeI [48, 49, 50, 51, 52, 53, 54, 55, 56, 57, 65, 66, 67, 68, 69, 70] c = upI c) (by decide +kernel) c
theorem low_yes {c : UInt8} (h : 0 ≤ lowI c) : lowI c = dv c ∧ dv c < 16 := by
  unfold lowI at h ⊢
  by_cases h1 : dv c < 16 ∧ ¬ (65 ≤ c.toNat ∧ c.toNat ≤ 70)
  · rw [if_pos h1]; exact ⟨rfl, h1.1⟩
  · rw [if_neg h1] at h; omega
theorem up_yes {c : UInt8} (h : 0 ≤ upI c) : upI c = dv c ∧ dv c < 16 := by
  unfold upI at h ⊢
  by_cases h1 : dv c < 16 ∧ ¬ (97 ≤ c.toNat ∧ c.toNat ≤ 102)
  · rw [if_pos h1]; exact ⟨rfl, h1.1⟩
  · rw [if_neg h1] at h; omega
theorem none_yes {c : UInt8} (h : lowI c < 0) (h2 : upI c < 0) : 16 ≤ dv c := by
  unfold lowI at h; unfold upI at h2
  by_cases h3 : 16 ≤ dv c
  · exact h3
  · by_cases h4 : 65 ≤ c.toNat ∧ c.toNat ≤ 70
    · rw [if_pos ⟨by omega, by omega⟩] at h2; omega
    · rw [if_pos ⟨by omega, h4⟩] at h; omega
theorem fig_slice (d : Int) (h0 : 0 ≤ d) (hd : d < 16) (W : World) : (Instr.slice 9 (.string ⟨#[48, 49, 50, 51, 52, 53, 54, 55, 56, 57, 97, 98, 99, 100, 101, 102]⟩) (some (.int .i64 d)) (some (.int .i64 (d + 1))) none).run Try.prog W = .ok (.string ⟨[digit d.toNat].toArray⟩) W := by
  have h : ∀ d : Fin 16, (⟨#[48, 49, 50, 51, 52, 53, 54, 55, 56, 57, 97, 98, 99, 100, 101, 102]⟩ : ByteArray).extract d.val (d.val + 1) = ⟨[digit d.val].toArray⟩ := by decide +kernel
  have := h ⟨d.toNat, by omega⟩
  simp only [] at this
  have hz : (⟨#[48, 49, 50, 51, 52, 53, 54, 55, 56, 57, 97, 98, 99, 100, 101, 102]⟩ : ByteArray).size = 16 := rfl
  rw [run_slice_string _ _ _ _ _ _ _ Try.underlying9 h0 (by omega) (by rw [hz]; omega)]
  rw [show (d + 1).toNat = d.toNat + 1 by omega, this]
end Go.Proofs.Ytgnjbbohphoojaa.Dec
