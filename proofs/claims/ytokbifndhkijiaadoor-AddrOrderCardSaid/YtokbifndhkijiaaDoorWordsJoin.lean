/- Contracts of package words: parts put together. -/
import Derived.Test.YtokbifndhkijiaaDoorWords
namespace Go.Proofs.YtokbifndhkijiaaDoor.Words
set_option maxRecDepth 100000
open Go.ChangeShapes Go.WideShapes Go.ChangeAt Go.RowKit
set_option linter.unusedVariables false
theorem map_back (ls : List (List UInt8)) : (ls.map fun l => (⟨l.toArray⟩ : ByteArray)).map (·.data.toList) = ls := by
  rw [List.map_map]
  conv => rhs; rw [← List.map_id ls]
  exact List.map_congr_left fun l _ => str_back l
theorem libJoin (v : Value) (ls : List (List UInt8)) (c : UInt8) (w : World) (h : Txts w v ls) (hN : ls.length ≤ 140737488355328) (hlen : (glue c ls).length ≤ 140737488355328) :
    Calls Tryd.prog 62 #[v, .string ⟨#[c]⟩] w fun e w' => e = .returned (.string ⟨(glue c ls).toArray⟩) ∧ Below w.heap.size w w' := by
  obtain ⟨A, cap, rfl, hcap, hc⟩ := h
  by_cases h0 : 0 < ls.length
  · obtain ⟨b, o, rfl, hb, hcell⟩ := hc h0
    have g := Tryd.strings_Join b o cap (ls.map fun l => ⟨l.toArray⟩) ⟨#[c]⟩ w (fun j x hx => by
      rw [List.getElem?_map] at hx
      cases hj : ls[j]? with
      | none => rw [hj] at hx; simp at hx
      | some y =>
        rw [hj] at hx
        obtain ⟨hlt, hy⟩ := List.getElem?_eq_some_iff.1 hj
        rw [hcell j hlt, hy]
        simp at hx; rw [hx]) hb (by rw [List.length_map]; exact hN) (by rw [List.length_map]; exact hcap) (by rw [map_back]; show (Lib.join ls [c]).length ≤ _; rw [glue_lib]; exact hlen)
    rw [List.length_map, map_back] at g
    refine g.mono fun e w' ⟨he, hw⟩ => ⟨?_, hw⟩
    rw [he]
    show Ending.returned (.string ⟨(Lib.join ls [c]).toArray⟩) = _
    rw [glue_lib]
  · have h1 : ls = [] := List.eq_nil_of_length_eq_zero (by omega)
    subst h1
    exact (Tryd.strings_Join_none A cap ⟨#[c]⟩ w).mono fun e w' ⟨he, hw⟩ => ⟨he, hw ▸ Below.refl _ _⟩
theorem join_any (v : Value) (ls : List (List UInt8)) (c : UInt8) (w : World) (h : Txts w v ls) (hN : ls.length ≤ 140737488355328) (hlen : (glue c ls).length ≤ 140737488355328) :
    Calls Tryd.prog 47 #[v, .int .u8 (c.toNat : Int)] w fun e w' => e = .returned (.string ⟨(glue c ls).toArray⟩) ∧ Below w.heap.size w w' := by
  go_enter Tryd.func47, Tryd.ntmps47
  go_wp2_with fail
  refine (alone_any c _).mono ?_
  rintro e w1 ⟨rfl, hb1⟩
  go_wp2_with fail
  refine (libJoin v ls c _ (h.below hb1) hN hlen).mono ?_
  rintro e w2 ⟨rfl, hb2⟩
  go_wp2_with fail
  go_ret
  exact ⟨rfl, low_trans hb1 hb2⟩
end Go.Proofs.YtokbifndhkijiaaDoor.Words
