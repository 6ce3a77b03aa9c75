/- Contracts of package words: lines. -/
import Derived.Test.YtgnjbbohphoojaaWordsAll
namespace Go.Proofs.Ytgnjbbohphoojaa.Words
set_option maxRecDepth 100000
open Go.ChangeShapes Go.WideShapes Go.ChangeAt Go.RowKit
set_option linter.unusedVariables false
theorem last_byte (s : ByteArray) (h : 0 < s.size) : s.data.toList.getLast? = some (s[s.size - 1]'(by omega)) := by
  rw [List.getLast?_eq_getElem?, len_size, List.getElem?_eq_getElem (by rw [len_size]; omega), byte_get s _ (by omega)]
def LinesEnd (l : List UInt8) (w : World) (e : Ending) (w' : World) : Prop := ∃ v, e = .returned (.tuple #[v, .int .i64 (lineE l)]) ∧ Txts w' v (lineL l) ∧ Below w.heap.size w w'
theorem lines_no {l : List UInt8} {w w' : World} {n : Int} (h : lineE l = n) (hn : n ≠ 0) (hb : Below w.heap.size w w') : LinesEnd l w (.returned (.tuple #[.slice none 0 0, .int .i64 n])) w' :=
  ⟨.slice none 0 0, by rw [h], by rw [lineL_no (by rw [h]; exact hn)]; exact Txts.nil _, hb⟩
theorem lines_yes {l : List UInt8} {w w' : World} {A : Option Addr} {c n : Nat} (h : lineE l = 0) (ht : Txts w' (.slice A (cut 10 l).length c) (cut 10 l)) (hn : n + 1 = (cut 10 l).length) (hb : Below w.heap.size w w') : LinesEnd l w (.returned (.tuple #[.slice A n c, .int .i64 0])) w' := by
  refine ⟨.slice A n c, by rw [h], ?_, hb⟩
  rw [lineL_ok h]
  obtain ⟨A2, c2, he, hc, hcell⟩ := ht
  injection he with e1 e2 e3
  subst e1; subst e3
  have hl : (cut 10 l).dropLast.length = n := by rw [List.length_dropLast]; omega
  refine ⟨A, c, by rw [hl], by rw [hl]; omega, fun hp => ?_⟩
  obtain ⟨b, o, rfl, hb, hcc⟩ := hcell (by omega)
  refine ⟨b, o, rfl, hb, fun j hj => ?_⟩
  rw [hcc j (by omega), List.getElem_dropLast]
end Go.Proofs.Ytgnjbbohphoojaa.Words
