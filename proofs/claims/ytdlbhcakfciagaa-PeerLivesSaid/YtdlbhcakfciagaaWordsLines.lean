/- Contracts of package words: lines. -/
import Derived.Test.YtdlbhcakfciagaaWordsAll
namespace Go.Proofs.Ytdlbhcakfciagaa.Words
set_option maxRecDepth 100000
open Go.ChangeShapes Go.WideShapes Go.ChangeAt Go.RowKit
set_option linter.unusedVariables false
theorem row_any (v : Value) (ls : List (List UInt8)) (w : World) (h : Txts w v ls) (hN : ls.length ≤ 140737488355328) (hlen : (glue 32 ls).length ≤ 140737488355328) :
    Calls Try.prog 28 #[v] w fun e w' => e = .returned (.string ⟨(glue 32 ls).toArray⟩) ∧ Below w.heap.size w w' := by
  go_enter Try.func28, Try.ntmps28
  go_wp2_with fail
  refine (join_any v ls 32 _ h hN hlen).mono ?_
  rintro e w2 ⟨rfl, hb2⟩
  go_wp2_with fail
  go_ret
  exact ⟨rfl, hb2⟩
theorem last_byte (s : ByteArray) (h : 0 < s.size) : s.data.toList.getLast? = some (s[s.size - 1]'(by omega)) := by
  rw [List.getLast?_eq_getElem?, len_size, List.getElem?_eq_getElem (by rw [len_size]; omega), byte_get s _ (by omega)]
def LinesEnd (l : List UInt8) (w : World) (e : Ending) (w' : World) : Prop := ∃ v, e = .returned (.tuple #[v, .int .i64 (lineE l)]) ∧ Txts w' v (lineL l) ∧ Below w.heap.size w w'
theorem lines_no {l : List UInt8} {w w' : World} {n : Int} (h : lineE l = n) (hn : n ≠ 0) (hb : Below w.heap.size w w') : LinesEnd l w (.returned (.tuple #[.slice none 0 0, .int .i64 n])) w' :=
  ⟨.slice none 0 0, by rw [h], by rw [lineL_no (by rw [h]; exact hn)]; exact Txts.nil _, hb⟩
theorem lines_yes {l : List UInt8} {w w' : World} {A : Option Addr} {c n : Nat} (h : lineE l = 0) (ht : Txts w' (.slice A (cut 10 l).length c) (cut 10 l)) (hn : n + 1 = (cut 10 l).length) (hb : Below w.heap.size w w') : LinesEnd l w (.returned (.tuple #[.slice A n c, .int .i64 0])) w' := by
  refine ⟨.slice A n c, by rw [h], ?_, hb⟩
  rw [lineL_ok h]
  obtain ⟨A2, c2, he, hc, hcell⟩ := ht
  injection he with e1 e2 e3
  subst e1; subst e3
  have hl : (cut 10 l).dropLast.length = n := by rw [List.length_dropLast]; omega
  refine ⟨A, c, by rw [hl], by rw [hl]; omega, fun hp => ?_⟩
  obtain ⟨b, o, rfl, hb, hcc⟩ := hcell (by omega)
  refine ⟨b, o, rfl, hb, fun j hj => ?_⟩
  rw [hcc j (by omega), List.getElem_dropLast]
end Go.Proofs.Ytdlbhcakfciagaa.Words
