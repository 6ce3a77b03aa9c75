/- Contract of the document's answers for layer 3: what is cut. -/
import Derived.Test.YtgnjbbohphoojaaWordsAll
import Derived.OwnWalk
namespace Go.Proofs.Ytgnjbbohphoojaa.Words
set_option maxRecDepth 100000
open Go.ChangeShapes Go.WideShapes Go.ChangeAt Go.RowKit
set_option linter.unusedVariables false
theorem Try.infoStr : (Try.prog.info? 9).map (fun i => (i.zero, i.size, i.bytes)) = some (some (.string ByteArray.empty), 1, 16) := by kernel_rfl
def strV (l : List UInt8) : Value := .string ⟨l.toArray⟩
theorem strs_one (ls : List (List UInt8)) : ∀ u ∈ ls.map strV, u.oneCell' = true := by
  intro u hu
  obtain ⟨l, _, rfl⟩ := List.mem_map.1 hu
  rfl
/-- What a list of the call's own owns, read. -/
theorem Txts.own {w : World} {base e : Nat} {v : Value} {ls : List (List UInt8)} (h : w.ownsRow base e 1 v ls.length (ls.map strV)) : Txts w v ls := by
  rcases h.2 with ⟨rfl, h0⟩ | ⟨g, cap, cur, rfl, _, hh, hnc, _, _, hcur⟩
  · exact ⟨none, 0, by rw [h0], by omega, fun hp => absurd hp (by omega)⟩
  · refine ⟨some ⟨g, 0, none⟩, cap, rfl, hnc, fun hp => ⟨g, 0, rfl, ?_, fun j hj => ?_⟩⟩
    · rcases Nat.lt_or_ge g w.heap.size with hlt | hge
      · exact hlt
      · rw [Array.getElem?_eq_none hge] at hh; cases hh
    · have := h.cells (g := g) rfl j (strV ls[j]) (by rw [List.getElem?_map, List.getElem?_eq_getElem hj]; rfl)
      rw [show (⟨g, 0, none⟩ : Addr).add j = ⟨g, 0 + j, none⟩ from by unfold Addr.add; split <;> simp_all] at this
      exact this
/-- Where the cutting stands: done lies in the list, the last part begins at f. -/
def CI (c : UInt8) (l : List UInt8) (k f : Nat) (done : List (List UInt8)) : Prop := f ≤ k ∧ cut c (l.take k) = done ++ [(l.take k).drop f]
theorem CI.start (c : UInt8) (l : List UInt8) : CI c l 0 0 [] := ⟨Nat.le_refl _, rfl⟩
theorem CI.hit {c : UInt8} {s : ByteArray} {k f : Nat} {done : List (List UInt8)} (h : CI c s.data.toList k f done) (hk : k < s.size) (hc : s[k] = c) : CI c s.data.toList (k + 1) (k + 1) (done ++ [(s.data.toList.take k).drop f]) := by
  refine ⟨Nat.le_refl _, ?_⟩
  rw [List.drop_eq_nil_of_le (List.length_take_le _ _), take_snoc s k hk, hc, cut_snoc_hit, h.2]
theorem CI.off {c : UInt8} {s : ByteArray} {k f : Nat} {done : List (List UInt8)} (h : CI c s.data.toList k f done) (hk : k < s.size) (hc : s[k] ≠ c) : CI c s.data.toList (k + 1) f done := by
  refine ⟨by have := h.1; omega, ?_⟩
  rw [take_snoc s k hk, cut_snoc_off hc h.2, List.drop_append_of_le_length]
  rw [List.length_take, len_size]; have := h.1; omega
theorem CI.len {c : UInt8} {l : List UInt8} {k f : Nat} {done : List (List UInt8)} (h : CI c l k f done) : done.length ≤ k := by
  have h1 := cut_len c (l.take k)
  rw [h.2] at h1
  have h2 : (l.take k).count c ≤ (l.take k).length := List.count_le_length
  have h3 := List.length_take_le k l
  simp at h1
  omega
theorem piece (s : ByteArray) (f k : Nat) : Value.string (s.extract f k) = strV ((s.data.toList.take k).drop f) := by
  unfold strV
  rw [List.drop_take, ← Lib.extract_data, str_same]
theorem piece_end (s : ByteArray) (f : Nat) : Value.string (s.extract f s.size) = strV (s.data.toList.drop f) := by
  rw [piece, List.take_of_length_le (by rw [len_size]; exact Nat.le_refl _)]
theorem one_cell {w : World} {v u : Value} {e : Nat} (j : Nat) (h : [v][j]? = some u) : (w.alloc (.cells #[v] e)).cell? ((⟨w.heap.size, 0, none⟩ : Addr).add j) = some u := by
  match j, h with
  | 0, h =>
    simp at h; subst h
    rw [show (⟨w.heap.size, 0, none⟩ : Addr).add 0 = ⟨w.heap.size, 0, none⟩ from rfl, World.cell?_alloc_mark]
    rfl
  | j + 1, h => simp at h
end Go.Proofs.Ytgnjbbohphoojaa.Words
