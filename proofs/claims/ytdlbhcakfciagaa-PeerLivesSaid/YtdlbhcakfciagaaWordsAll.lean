/- Contracts of package words: what is cut and put together. Lists of texts in memory. -/
import Derived.Test.YtdlbhcakfciagaaKit
import Derived.Test.YtdlbhcakfciagaaMath
import Derived.Test.YtdlbhcakfciagaaLib
import Derived.Laws.IdiomStrings
namespace Go.Proofs.Ytdlbhcakfciagaa
set_option maxRecDepth 100000
open Go.ChangeShapes Go.WideShapes Go.ChangeAt Go.RowKit
/-- The value v is a slice that reads as these texts. -/
def Txts (w : World) (v : Value) (ls : List (List UInt8)) : Prop :=
  ∃ A c, v = .slice A ls.length c ∧ ls.length ≤ c ∧ (0 < ls.length → ∃ b o, A = some ⟨b, o, none⟩ ∧ b < w.heap.size ∧ ∀ j (h : j < ls.length), w.cell? ⟨b, o + j, none⟩ = some (.string ⟨ls[j].toArray⟩))
theorem Txts.below {w w1 : World} {v : Value} {ls : List (List UInt8)} (h : Txts w v ls) (hb : Below w.heap.size w w1) : Txts w1 v ls := by
  obtain ⟨A, c, h1, h2, h3⟩ := h
  refine ⟨A, c, h1, h2, fun hp => ?_⟩
  obtain ⟨b, o, e, hlt, hc⟩ := h3 hp
  exact ⟨b, o, e, Nat.lt_of_lt_of_le hlt hb.size, fun j hj => (hb.cell (p := ⟨b, o + j, none⟩) hlt).trans (hc j hj)⟩
theorem Txts.nil (w : World) : Txts w (.slice none 0 0) [] := ⟨none, 0, rfl, Nat.le_refl _, fun h => absurd h (by simp)⟩
/-- A list that was just written out, as for a call of many arguments. -/
theorem Txts.lit (w : World) (ls : List (List UInt8)) (cs : Array Value) (e : TypeId) (h : cs.toList = ls.map fun l => Value.string ⟨l.toArray⟩) : Txts (w.alloc (.cells cs e)) (.slice (some ⟨w.heap.size, 0, none⟩) ls.length ls.length) ls := by
  refine ⟨some ⟨w.heap.size, 0, none⟩, ls.length, rfl, Nat.le_refl _, fun _ => ⟨w.heap.size, 0, rfl, by simp, fun j hj => ?_⟩⟩
  rw [cell_of_row _ _ _ _ _ _ (heap_alloc_new w _), Nat.zero_add, ← Array.getElem?_toList, h, List.getElem?_map, List.getElem?_eq_getElem hj]; rfl
/-- What is handed back reads as these texts; old memory is as it was. -/
def RetTxts (ls : List (List UInt8)) (w : World) (e : Ending) (w' : World) : Prop := ∃ v, e = .returned v ∧ Txts w' v ls ∧ Below w.heap.size w w'
namespace Words
set_option linter.unusedVariables false
theorem str_back (l : List UInt8) : (⟨l.toArray⟩ : ByteArray).data.toList = l := by simp
theorem str_same (s : ByteArray) : (⟨s.data.toList.toArray⟩ : ByteArray) = s := by cases s; simp
theorem byte_str (w : World) (c : UInt8) :
    (convert 64 9 (.slice (some ⟨w.heap.size, 0, none⟩) 1 1)).run Try.prog (w.alloc (.cells #[.int .u8 (c.toNat : Int)] 5)) = .ok (.string ⟨[c].toArray⟩) (w.alloc (.cells #[.int .u8 (c.toNat : Int)] 5)) := by
  refine run_convert_bytes_back (P := Try.prog) (w.alloc (.cells #[.int .u8 (c.toNat : Int)] 5)) 64 9 5 ⟨w.heap.size, 0, none⟩ 1 [c] Try.underlying64 Try.underlying5 Try.underlying9 ?_
  intro j hj
  obtain rfl : j = 0 := by simp at hj; exact hj
  rw [show (⟨w.heap.size, 0, none⟩ : Addr).add 0 = ⟨w.heap.size, 0, none⟩ from rfl, World.cell?_alloc_mark]
  rfl
theorem alone_any (c : UInt8) (w : World) : Calls Try.prog 47 #[.int .u8 (c.toNat : Int)] w fun e w' => e = .returned (.string ⟨#[c]⟩) ∧ Below w.heap.size w w' := by
  have ho := byte_str w c
  go_enter Try.func47, Try.ntmps47
  go_wp2
  go_ret
  exact ⟨rfl, (Below.refl _ _).alloc (Nat.le_refl _) _⟩
theorem cells_map (ps : List ByteArray) (ls : List (List UInt8)) (h : ps.map (·.data.toList) = ls) (j : Nat) (hj : j < ls.length) : (ps.map Value.string).toArray[j]? = some (.string ⟨ls[j].toArray⟩) := by
  subst h
  have hj' : j < ps.length := by simpa using hj
  rw [List.getElem?_toArray, List.getElem?_map, List.getElem?_eq_getElem hj', Option.map_some]
  rw [List.getElem_map, str_same]
end Words
end Go.Proofs.Ytdlbhcakfciagaa
/- Contracts of package words: parts put together. -/
namespace Go.Proofs.Ytdlbhcakfciagaa.Words
set_option maxRecDepth 100000
open Go.ChangeShapes Go.WideShapes Go.ChangeAt Go.RowKit
set_option linter.unusedVariables false
theorem map_back (ls : List (List UInt8)) : (ls.map fun l => (⟨l.toArray⟩ : ByteArray)).map (·.data.toList) = ls := by
  rw [List.map_map]
  conv => rhs; rw [← List.map_id ls]
  exact List.map_congr_left fun l _ => str_back l
theorem libJoin (v : Value) (ls : List (List UInt8)) (c : UInt8) (w : World) (h : Txts w v ls) (hN : ls.length ≤ 140737488355328) (hlen : (glue c ls).length ≤ 140737488355328) :
    Calls Try.prog 46 #[v, .string ⟨#[c]⟩] w fun e w' => e = .returned (.string ⟨(glue c ls).toArray⟩) ∧ Below w.heap.size w w' := by
  obtain ⟨A, cap, rfl, hcap, hc⟩ := h
  by_cases h0 : 0 < ls.length
  · obtain ⟨b, o, rfl, hb, hcell⟩ := hc h0
    have g := Try.strings_Join b o cap (ls.map fun l => ⟨l.toArray⟩) ⟨#[c]⟩ w (fun j x hx => by
      rw [List.getElem?_map] at hx
      cases hj : ls[j]? with
      | none => rw [hj] at hx; simp at hx
      | some y =>
        rw [hj] at hx
        obtain ⟨hlt, hy⟩ := List.getElem?_eq_some_iff.1 hj
        rw [hcell j hlt, hy]
        simp at hx; rw [hx]) hb (by rw [List.length_map]; exact hN) (by rw [List.length_map]; exact hcap) (by rw [map_back]; show (Lib.join ls [c]).length ≤ _; rw [glue_lib]; exact hlen)
    rw [List.length_map, map_back] at g
    refine g.mono fun e w' ⟨he, hw⟩ => ⟨?_, hw⟩
    rw [he]
    show Ending.returned (.string ⟨(Lib.join ls [c]).toArray⟩) = _
    rw [glue_lib]
  · have h1 : ls = [] := List.eq_nil_of_length_eq_zero (by omega)
    subst h1
    exact (Try.strings_Join_none A cap ⟨#[c]⟩ w).mono fun e w' ⟨he, hw⟩ => ⟨he, hw ▸ Below.refl _ _⟩
theorem join_any (v : Value) (ls : List (List UInt8)) (c : UInt8) (w : World) (h : Txts w v ls) (hN : ls.length ≤ 140737488355328) (hlen : (glue c ls).length ≤ 140737488355328) :
    Calls Try.prog 38 #[v, .int .u8 (c.toNat : Int)] w fun e w' => e = .returned (.string ⟨(glue c ls).toArray⟩) ∧ Below w.heap.size w w' := by
  go_enter Try.func38, Try.ntmps38
  go_wp2_with fail
  refine (alone_any c _).mono ?_
  rintro e w1 ⟨rfl, hb1⟩
  go_wp2_with fail
  refine (libJoin v ls c _ (h.below hb1) hN hlen).mono ?_
  rintro e w2 ⟨rfl, hb2⟩
  go_wp2_with fail
  go_ret
  exact ⟨rfl, low_trans hb1 hb2⟩
end Go.Proofs.Ytdlbhcakfciagaa.Words
