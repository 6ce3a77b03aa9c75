/- slices.SortFunc at []heap.Item, by the contract of the library that is laid here; Sorted. -/
import Derived.Test.YtgnjbbohphoojaaHeapAll
import Derived.Test.YtgnjbbohphoojaaLibS
import Derived.Shelf.SlSortCmp.WholeK
import Derived.Shelf.SlSortCmp.NoneTotal
namespace Go.Proofs.Ytgnjbbohphoojaa.Hp
set_option maxRecDepth 100000
open Go.ChangeShapes Go.WideShapes Go.ChangeAt Go.RowKit
open Dec Words V4 V6 Ad Ci En Go.Deep
set_option linter.unusedVariables false
/-- An item that is within Go's bounds. -/
abbrev Iok : Type := {x : It // x.ok}
instance : Inhabited Iok := ⟨⟨zeroI, zeroI_ok⟩⟩
def encK (x : Iok) : List Value := encI x.1
def cfK (x y : Iok) : Int := cmpH x.1 y.1
theorem ltK (x y : Iok) : ltOf cfK x y = ltH x.1 y.1 := rfl
theorem swoK : Sort.SWO (ltOf cfK) where
  irrefl x := le_self x.1
  trans x y z h1 h2 := by
    rw [ltK] at *
    cases h : ltH x.1 z.1 with
    | true => rfl
    | false =>
      have := le_go h (lt_le h1)
      rw [this] at h2
      exact absurd h2 (by simp)
  ntrans x y z h1 h2 := le_go h2 h1
theorem blk_holds {w : World} {g : Nat} {t : TypeId} {Z : List Value} {l : List It} (h : Blk w g t (flat encI l ++ Z)) (hok : ∀ x ∈ l, x.ok) : Sort.HoldsK encK 5 w g 0 (l.attachWith It.ok hok).toArray := by
  intro j hj
  rw [Sort.size_flatK] at hj
  have hs : (l.attachWith It.ok hok).toArray.size = l.length := by simp
  rw [hs] at hj
  refine ⟨?_, h.free _⟩
  rw [Sort.get_flatK _ _ _ _ (by rw [hs]; exact hj)]
  have hi : j / 5 < l.length := by omega
  have e1 : (l.attachWith It.ok hok).toArray[j / 5]! = ⟨l[j / 5], hok _ (List.getElem_mem _)⟩ := by
    rw [getElem!_pos _ _ (by rw [hs]; exact hi)]
    simp
  rw [e1]
  have hm : j % 5 < (encI l[j / 5]).length := by rw [encI_len]; omega
  have := blk_cells h hi (List.getElem?_eq_getElem hm)
  rw [show j / 5 * 5 + j % 5 = j by omega] at this
  rw [Nat.zero_add, this, id]
  exact congrArg some (getElem!_pos (encI l[j / 5]) (j % 5) hm).symm
theorem sort_bt (w : World) (g n : Nat) (d : Array Iok) (os : Array Obj) : Bt g w (sortWorldK encK 5 w g 0 n d os) := by
  refine ⟨rfl, rfl, rfl, ?_, fun k hk hl => ?_⟩
  · simp [sortWorldK, Sort.putRowK, Sort.putRow, Sort.mapBlock, Sort.grow, Sort.ahead]
  · have hl2 : k < (Sort.putRow id (Sort.ahead w n) g 0 (Sort.flatK encK 5 d)).heap.size := by simp [Sort.putRow, Sort.mapBlock, Sort.ahead]; exact hl
    show ((Sort.putRow id (Sort.ahead w n) g 0 (Sort.flatK encK 5 d)).heap ++ os)[k]? = w.heap[k]?
    rw [Array.getElem?_append_left hl2]
    show (w.heap.modify g _)[k]? = w.heap[k]?
    rw [Array.getElem?_modify, if_neg (fun h => hk h.symm)]
theorem cmp_lays (g n : Nat) (w : World) : CmpLays Try.prog 28 #[] encK 5 cfK g 0 n w := fun m os dk _ x y =>
  (compareH_any x.1 y.1 _ x.2 y.2).mono fun e w' ⟨he, hg⟩ => ⟨he, hg.grown⟩
set_option maxHeartbeats 1000000 in
theorem sort_any (l : List It) (w : World) (g cap : Nat) (Z : List Value) (h : Blk w g 57 (flat encI l ++ Z)) (hok : ∀ x ∈ l, x.ok) (hc : l.length ≤ cap) (hl : l.length ≤ 1000000) :
    Calls Try.prog 27 #[.slice (some ⟨g, 0, none⟩) l.length cap, .func (.func 28) #[] #[]] w fun e w' => e = .returned (.tuple #[]) ∧ Items w' (.slice (some ⟨g, 0, none⟩) l.length cap) (sortX l) ∧ Bt g w w' := by
  have hs : (l.attachWith It.ok hok).toArray.size = l.length := by simp
  have hH := blk_holds h hok
  have eg : ∀ args w, (callFunc 28 args).run Try.prog w = .ok (.enter 28 args) w := enters_of Try.func28 (by kernel_rfl) rfl
  have hcon := AnyQ.slices_SortFunc Try.sortL 5 (fun _ => by kernel_rfl) Try.sizeOf57 encK (fun _ => rfl) (fun x => encI_one x.1) cfK swoK 28 #[] g 0 cap (l.attachWith It.ok hok).toArray w eg (cmp_lays g _ w) hH h.lt (by rw [hs]; omega)
  change Calls Try.prog 27 _ _ _ at hcon
  rw [hs] at hcon
  refine hcon.mono ?_
  rintro e w' ⟨he, d', n, os, hp, hsrt, hw⟩
  have hsz : d'.size = l.length := by rw [hp.1, hs]
  have hperm : (d'.toList.map Subtype.val).Perm l := by
    have h3 := hp.2.2
    rw [show l.length = d'.size from hsz.symm] at h3
    rw [Array.extract_size] at h3
    rw [hsz, ← hs, Array.extract_size] at h3
    have := h3.map Subtype.val
    rwa [List.toList_toArray, List.attachWith_map_subtype_val] at this
  have hsorted : Srt (d'.toList.map Subtype.val) := by
    unfold Srt
    rw [List.pairwise_map, List.pairwise_iff_getElem]
    intro i j hi hj hij
    have hj2 : j < d'.size := by simpa using hj
    have hi2 : i < d'.size := by simpa using hi
    have := hsrt i j (Nat.zero_le _) hij (by rw [← hsz]; exact hj2)
    rw [getElem!_pos d' i hi2, getElem!_pos d' j hj2] at this
    exact this
  have he2 : d'.toList.map Subtype.val = sortX l := srt_one hsorted (sortX_srt l) (hperm.trans (sortX_perm l).symm)
  have hHold : Sort.HoldsK encK 5 w' g 0 d' := SWK.holds (w0 := w) ⟨n, os, hw⟩ h.lt hH (by rw [hsz, hs])
  refine ⟨he, ?_, by rw [hw]; exact sort_bt _ _ _ _ _⟩
  have hlen : (sortX l).length = l.length := (sortX_perm l).length_eq
  refine ⟨some ⟨g, 0, none⟩, cap, by rw [hlen], by rw [hlen]; exact hc, (fun h => by cases h), fun _ => ⟨g, 0, rfl, ?_, fun i hi j u hu => ?_⟩⟩
  · rw [hw]
    exact Nat.lt_of_lt_of_le h.lt (sort_bt w g n d' os).size
  · have hi2 : i < d'.size := by rw [hsz, ← hlen]; exact hi
    have hj : j < 5 := by have := (List.getElem?_eq_some_iff.1 hu).1; rwa [encI_len] at this
    have e1 : (sortX l)[i] = (d'[i]).1 := by
      simp only [← he2, List.getElem_map, Array.getElem_toList]
    have hc := (Sort.HoldsK.cell hHold hi2 hj).1
    rw [hc, getElem!_pos d' i hi2]
    rw [e1] at hu
    obtain ⟨h4, h5⟩ := List.getElem?_eq_some_iff.1 hu
    rw [← h5]
    exact congrArg some (getElem!_pos (encI (d'[i]).1) j h4)
theorem sort_none (w : World) (cap : Nat) (p : Option Addr) : Calls Try.prog 27 #[.slice p 0 cap, .func (.func 28) #[] #[]] w fun e w' => e = .returned (.tuple #[]) ∧ w = w' := by
  have h := AnyF.slices_SortFunc_none Try.sortL p cap (.func (.func 28) #[] #[]) w
  change Calls Try.prog 27 _ _ _ at h
  exact h.mono fun e w' ⟨he, hw⟩ => ⟨he, hw.symm⟩
set_option maxHeartbeats 1000000 in
/-- Sorted. -/
theorem sorted_any (v : Value) (l : List It) (w : World) (h : Items w v l) (hok : ∀ x ∈ l, x.ok) (hl : l.length ≤ 900000) :
    Calls Try.prog 16 #[v] w fun e w' => ∃ u, e = .returned u ∧ Items w' u (sortX l) ∧ Below w.heap.size w w' := by
  have KC := Lib.hid (clone_any v l w h hl)
  clear h
  go_enter Try.func16, Try.ntmps16
  go_wp2_with fail
  refine KC.out.mono ?_; rintro e w1 ⟨u, rfl, hO, hb⟩
  clear KC
  rcases Nat.eq_zero_or_pos l.length with h0 | h0
  · obtain rfl := List.eq_nil_of_length_eq_zero h0
    obtain ⟨_, ⟨rfl, _⟩ | ⟨g, cap, cur, rfl, _⟩⟩ := id hO
    all_goals
      have HO := Lib.hid (ownI_items hO)
      have HL := Lib.hid hb
      clear hO hb
      have KS := Lib.hid fun W c p => sort_none W c p
      go_wp2_with fail
      refine (KS.out _ _ _).mono ?_; rintro e w2 ⟨rfl, rfl⟩
      go_wp2_with fail
      go_ret
      exact ⟨_, rfl, HO.out, HL.out⟩
  · obtain ⟨g, cap, Z, rfl, hB, hcap, hblk⟩ := own_blk hO h0
    have KS := Lib.hid (sort_any l w1 g cap Z hblk hok hcap (by omega))
    have HB := Lib.hid (show Below w.heap.size w w1 ∧ w.heap.size ≤ g from ⟨hb, hB⟩)
    clear hO hb hblk hB hcap
    go_wp2_with fail
    refine KS.out.mono ?_; rintro e w2 ⟨rfl, hi, hbt⟩
    have HI := Lib.hid hi
    have HT := Lib.hid hbt
    clear hi hbt
    go_wp2_with fail
    go_ret
    exact ⟨_, rfl, HI.out, HT.out.below HB.out.1 HB.out.2 HB.out.1.size⟩
end Go.Proofs.Ytgnjbbohphoojaa.Hp
