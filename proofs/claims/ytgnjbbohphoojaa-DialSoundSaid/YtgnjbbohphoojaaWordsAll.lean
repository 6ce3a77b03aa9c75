/- Contracts of package words: what is cut and put together. Lists of texts in memory. -/
import Derived.Test.YtgnjbbohphoojaaKit
import Derived.Test.YtgnjbbohphoojaaMath
import Derived.Test.YtgnjbbohphoojaaLib
import Derived.Laws.IdiomStrings
namespace Go.Proofs.Ytgnjbbohphoojaa
set_option maxRecDepth 100000
open Go.ChangeShapes Go.WideShapes Go.ChangeAt Go.RowKit
/-- The value v is a slice that reads as these texts. -/
def Txts (w : World) (v : Value) (ls : List (List UInt8)) : Prop :=
  ∃ A c, v = .slice A ls.length c ∧ ls.length ≤ c ∧ (0 < ls.length → ∃ b o, A = some ⟨b, o, none⟩ ∧ b < w.heap.size ∧ ∀ j (h : j < ls.length), w.cell? ⟨b, o + j, none⟩ = some (.string ⟨ls[j].toArray⟩))
theorem Txts.below {w w1 : World} {v : Value} {ls : List (List UInt8)} (h : Txts w v ls) (hb : Below w.heap.size w w1) : Txts w1 v ls := by
  obtain ⟨A, c, h1, h2, h3⟩ := h
  refine ⟨A, c, h1, h2, fun hp => ?_⟩
  obtain ⟨b, o, e, hlt, hc⟩ := h3 hp
  exact ⟨b, o, e, Nat.lt_of_lt_of_le hlt hb.size, fun j hj => (hb.cell (p := ⟨b, o + j, none⟩) hlt).trans (hc j hj)⟩
theorem Txts.nil (w : World) : Txts w (.slice none 0 0) [] := ⟨none, 0, rfl, Nat.le_refl _, fun h => absurd h (by simp)⟩
/-- A list that was just written out, as for a call of many arguments. -/
theorem Txts.lit (w : World) (ls : List (List UInt8)) (cs : Array Value) (e : TypeId) (h : cs.toList = ls.map fun l => Value.string ⟨l.toArray⟩) : Txts (w.alloc (.cells cs e)) (.slice (some ⟨w.heap.size, 0, none⟩) ls.length ls.length) ls := by
  refine ⟨some ⟨w.heap.size, 0, none⟩, ls.length, rfl, Nat.le_refl _, fun _ => ⟨w.heap.size, 0, rfl, by simp, fun j hj => ?_⟩⟩
  rw [cell_of_row _ _ _ _ _ _ (heap_alloc_new w _), Nat.zero_add, ← Array.getElem?_toList, h, List.getElem?_map, List.getElem?_eq_getElem hj]; rfl
/-- What is handed back reads as these texts; old memory is as it was. -/
def RetTxts (ls : List (List UInt8)) (w : World) (e : Ending) (w' : World) : Prop := ∃ v, e = .returned v ∧ Txts w' v ls ∧ Below w.heap.size w w'
namespace Words
set_option linter.unusedVariables false
theorem str_back (l : List UInt8) : (⟨l.toArray⟩ : ByteArray).data.toList = l := by simp
theorem str_same (s : ByteArray) : (⟨s.data.toList.toArray⟩ : ByteArray) = s := by cases s; simp
theorem cells_map (ps : List ByteArray) (ls : List (List UInt8)) (h : ps.map (·.data.toList) = ls) (j : Nat) (hj : j < ls.length) : (ps.map Value.string).toArray[j]? = some (.string ⟨ls[j].toArray⟩) := by
  subst h
  have hj' : j < ps.length := by simpa using hj
  rw [List.getElem?_toArray, List.getElem?_map, List.getElem?_eq_getElem hj', Option.map_some]
  rw [List.getElem_map, str_same]
end Words
end Go.Proofs.Ytgnjbbohphoojaa
/- Contracts of package words: parts put together. -/
namespace Go.Proofs.Ytgnjbbohphoojaa.Words
set_option maxRecDepth 100000
open Go.ChangeShapes Go.WideShapes Go.ChangeAt Go.RowKit
set_option linter.unusedVariables false
theorem map_back (ls : List (List UInt8)) : (ls.map fun l => (⟨l.toArray⟩ : ByteArray)).map (·.data.toList) = ls := by
  rw [List.map_map]
  conv => rhs; rw [← List.map_id ls]
  exact List.map_congr_left fun l _ => str_back l
end Go.Proofs.Ytgnjbbohphoojaa.Words
