/- slices.SortFunc at subnets, by the contract of the library that is laid here. -/
import Derived.Test.YtbonfmjalgfgaaaSpreadMem
import Derived.Test.YtbonfmjalgfgaaaLibS
import Derived.Shelf.SlSortCmp.WholeK
import Derived.Shelf.SlSortCmp.NoneTotal
namespace Go.Proofs.Ytbonfmjalgfgaaa.Sp
set_option maxRecDepth 100000
open Go.ChangeShapes Go.WideShapes Go.ChangeAt Go.RowKit
open Dec Words V4 V6 Ad Ci En Gr Go.Deep
set_option linter.unusedVariables false
/-- A subnet that is within Go's bounds. -/
abbrev Nok : Type := {x : Net // x.ok}
theorem zero_ok : zero.ok := ⟨⟨by decide, by decide⟩, by decide, by decide⟩
instance : Inhabited Nok := ⟨⟨zero, zero_ok⟩⟩
def encK (x : Nok) : List Value := encM x.1
def cfK (x y : Nok) : Int := cmpN x.1 y.1
theorem ltK (x y : Nok) : ltOf cfK x y = decide (cmpN x.1 y.1 < 0) := rfl
theorem swoK : Sort.SWO (ltOf cfK) where
  irrefl x := by rw [ltK]; simp; have := (cmpN_zero x.1 x.1).2 rfl; omega
  trans x y z h1 h2 := by
    rw [ltK, decide_eq_true_eq] at *
    exact cmpN_less h1 h2
  ntrans x y z h1 h2 := by
    rw [ltK, decide_eq_false_iff_not] at *
    have e1 := cmpN_flip x.1 y.1
    have e2 := cmpN_flip y.1 z.1
    have e3 := cmpN_flip x.1 z.1
    have := cmpN_le (a := z.1) (b := y.1) (c := x.1) (by omega) (by omega)
    omega
theorem blkN_holds {w : World} {g : Nat} {t : TypeId} {Z : List Value} {l : List Net} (h : Blk w g t (flat encM l ++ Z)) (hok : ∀ x ∈ l, x.ok) : Sort.HoldsK encK 4 w g 0 (l.attachWith Net.ok hok).toArray := by
  intro j hj
  rw [Sort.size_flatK] at hj
  have hs : (l.attachWith Net.ok hok).toArray.size = l.length := by simp
  rw [hs] at hj
  refine ⟨?_, h.free _⟩
  rw [Sort.get_flatK _ _ _ _ (by rw [hs]; exact hj)]
  have hi : j / 4 < l.length := by omega
  have e1 : (l.attachWith Net.ok hok).toArray[j / 4]! = ⟨l[j / 4], hok _ (List.getElem_mem _)⟩ := by
    rw [getElem!_pos _ _ (by rw [hs]; exact hi)]
    simp
  rw [e1]
  have hm : j % 4 < (encM l[j / 4]).length := by rw [encM_len]; omega
  have := cellM h (i := j / 4) (j := j % 4) (u := (encM l[j / 4])[j % 4]) hi (by rw [getElem!_pos l (j / 4) hi]; exact List.getElem?_eq_getElem hm)
  rw [show j / 4 * 4 + j % 4 = j by omega] at this
  rw [Nat.zero_add, this, id]
  exact congrArg some (getElem!_pos (encM l[j / 4]) (j % 4) hm).symm
theorem sortN_bt (w : World) (g n : Nat) (d : Array Nok) (os : Array Obj) : Bt g w (sortWorldK encK 4 w g 0 n d os) := by
  refine ⟨rfl, rfl, rfl, ?_, fun k hk hl => ?_⟩
  · simp [sortWorldK, Sort.putRowK, Sort.putRow, Sort.mapBlock, Sort.grow, Sort.ahead]
  · have hl2 : k < (Sort.putRow id (Sort.ahead w n) g 0 (Sort.flatK encK 4 d)).heap.size := by simp [Sort.putRow, Sort.mapBlock, Sort.ahead]; exact hl
    show ((Sort.putRow id (Sort.ahead w n) g 0 (Sort.flatK encK 4 d)).heap ++ os)[k]? = w.heap[k]?
    rw [Array.getElem?_append_left hl2]
    show (w.heap.modify g _)[k]? = w.heap[k]?
    rw [Array.getElem?_modify, if_neg (fun h => hk h.symm)]
/-- The row behind the sorting. -/
theorem sortN_blk {w : World} {g n : Nat} {t : TypeId} {Z : List Value} {l : List Net} (h : Blk w g t (flat encM l ++ Z)) (d : Array Nok) (os : Array Obj) (hd : d.size = l.length) : Blk (sortWorldK encK 4 w g 0 n d os) g t (flat encM (d.toList.map Subtype.val) ++ Z) := by
  have hl2 : g < (Sort.putRow id (Sort.ahead w n) g 0 (Sort.flatK encK 4 d)).heap.size := by simp [Sort.putRow, Sort.mapBlock, Sort.ahead]; exact h.lt
  show ((Sort.putRow id (Sort.ahead w n) g 0 (Sort.flatK encK 4 d)).heap ++ os)[g]? = _
  rw [Array.getElem?_append_left hl2]
  show (w.heap.modify g _)[g]? = _
  rw [Array.getElem?_modify, if_pos rfl, show w.heap[g]? = _ from h]
  show some (Obj.cells (Sort.putCells id 0 (Sort.flatK encK 4 d) (flat encM l ++ Z).toArray) t (0, 0)) = _
  congr 2
  apply Array.ext_getElem?
  intro j
  unfold Sort.putCells
  rw [Array.getElem?_mapIdx]
  have hS : (flat encM (d.toList.map Subtype.val)).length = l.length * 4 := by rw [flat_len encM_len]; simp [hd]
  have hL : (flat encM l).length = l.length * 4 := flat_len encM_len l
  by_cases hj : j < l.length * 4
  · have hjd : j / 4 < d.size := by omega
    have hm : j % 4 < (encM d[j / 4].1).length := by rw [encM_len]; omega
    have hx : ((flat encM l ++ Z).toArray)[j]? = some ((flat encM l)[j]'(by omega)) := by
      rw [List.getElem?_toArray, List.getElem?_append_left (by omega), List.getElem?_eq_getElem]
    rw [hx, Option.map_some, if_pos ⟨Nat.zero_le _, by rw [Sort.size_flatK, hd]; omega⟩, Nat.sub_zero, Sort.get_flatK _ _ _ _ (by rw [hd]; exact hj), getElem!_pos d _ hjd, List.getElem?_toArray, List.getElem?_append_left (by omega)]
    have hf := flat_at encM_len (d.toList.map Subtype.val) (j / 4) (j % 4) (by simpa using hjd) (Nat.mod_lt _ (by decide))
    rw [show j / 4 * 4 + j % 4 = j by omega] at hf
    rw [hf]
    simp only [List.getElem_map, Array.getElem_toList]
    rw [List.getElem?_eq_getElem hm]
    exact congrArg some (getElem!_pos (encM d[j / 4].1) (j % 4) hm)
  · rw [List.getElem?_toArray, List.getElem?_toArray, List.getElem?_append_right (by omega), List.getElem?_append_right (by omega), hL, hS]
    cases hz : Z[j - l.length * 4]? with
    | none => rfl
    | some z => rw [Option.map_some, if_neg (fun hh => hj (by have := hh.2; rw [Sort.size_flatK, hd] at this; omega))]
theorem cmpN_lays (g n : Nat) (w : World) : CmpLays Try.prog 15 #[] encK 4 cfK g 0 n w := fun m os dk _ x y =>
  (compareNG_any x.1 y.1 _ x.2 y.2).mono fun e w' ⟨he, hg⟩ => ⟨he, hg.grown⟩
set_option maxHeartbeats 1000000 in
theorem sortN_any (l : List Net) (w : World) (g cap : Nat) (Z : List Value) (h : Blk w g 40 (flat encM l ++ Z)) (hok : ∀ x ∈ l, x.ok) (hl : l.length ≤ 1000000) :
    Calls Try.prog 23 #[.slice (some ⟨g, 0, none⟩) l.length cap, .func (.func 15) #[] #[]] w fun e w' => e = .returned (.tuple #[]) ∧ ∃ s, s.Perm l ∧ Up s ∧ Blk w' g 40 (flat encM s ++ Z) ∧ Bt g w w' := by
  have hs : (l.attachWith Net.ok hok).toArray.size = l.length := by simp
  have hH := blkN_holds h hok
  have eg : ∀ args w, (callFunc 15 args).run Try.prog w = .ok (.enter 15 args) w := enters_of Try.func15 (by kernel_rfl) rfl
  have hcon := AnyQ.slices_SortFunc Try.sortL 4 (fun _ => by kernel_rfl) Try.sizeOf40 encK (fun _ => rfl) (fun x => encM_one x.1) cfK swoK 15 #[] g 0 cap (l.attachWith Net.ok hok).toArray w eg (cmpN_lays g _ w) hH h.lt (by rw [hs]; omega)
  change Calls Try.prog 23 _ _ _ at hcon
  rw [hs] at hcon
  refine hcon.mono ?_
  rintro e w' ⟨he, d', n, os, hp, hsrt, hw⟩
  have hsz : d'.size = l.length := by rw [hp.1, hs]
  have hperm : (d'.toList.map Subtype.val).Perm l := by
    have h3 := hp.2.2
    rw [show l.length = d'.size from hsz.symm] at h3
    rw [Array.extract_size] at h3
    rw [hsz, ← hs, Array.extract_size] at h3
    have := h3.map Subtype.val
    rwa [List.toList_toArray, List.attachWith_map_subtype_val] at this
  refine ⟨he, d'.toList.map Subtype.val, hperm, ?_, by rw [hw]; exact sortN_blk h d' os hsz, by rw [hw]; exact sortN_bt _ _ _ _ _⟩
  unfold Up
  rw [List.pairwise_map, List.pairwise_iff_getElem]
  intro i j hi hj hij
  have hj2 : j < d'.size := by simpa using hj
  have hi2 : i < d'.size := by simpa using hi
  have := hsrt i j (Nat.zero_le _) hij (by rw [← hsz]; exact hj2)
  rw [getElem!_pos d' i hi2, getElem!_pos d' j hj2, ltK, decide_eq_false_iff_not] at this
  have h5 := cmpN_flip d'[i].1 d'[j].1
  simp only [Array.getElem_toList]
  omega
theorem sortN_none (w : World) (cap : Nat) (p : Option Addr) : Calls Try.prog 23 #[.slice p 0 cap, .func (.func 15) #[] #[]] w fun e w' => e = .returned (.tuple #[]) ∧ w = w' := by
  have h := AnyF.slices_SortFunc_none Try.sortL p cap (.func (.func 15) #[] #[]) w
  change Calls Try.prog 23 _ _ _ at h
  exact h.mono fun e w' ⟨he, hw⟩ => ⟨he, hw.symm⟩
end Go.Proofs.Ytbonfmjalgfgaaa.Sp
