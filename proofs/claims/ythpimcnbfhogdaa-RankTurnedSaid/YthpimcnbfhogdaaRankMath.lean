/- Of layer 18 (rank), in plain words: where a peer stands in an order, who counts, the places in order, ranks. -/
import Derived.Test.YthpimcnbfhogdaaStbMath
import Derived.Test.YthpimcnbfhogdaaPeerMath
import Derived.Test.YthpimcnbfhogdaaGroupAll
import Derived.Test.YthpimcnbfhogdaaMixAll
namespace Go.Proofs.Ythpimcnbfhogdaa.Ra
set_option maxRecDepth 100000
set_option linter.unusedVariables false
set_option linter.unusedSimpArgs false
open Dec Words V4 V6 Ad Ci En Sat Ha Pe Stb Gr Mi
/-- Where a peer stands: a number, an end, an index. -/
structure Pl where
  k : Nat
  e : Endp
  i : Int
instance : Inhabited Pl := ⟨⟨0, zeroE, 0⟩⟩
instance : Inhabited Pr := ⟨⟨zeroE, false, 0, ⟨0, 0⟩, 0, 0⟩⟩
def Pl.ok (x : Pl) : Prop := x.k < 18446744073709551616 ∧ x.e.ok ∧ (-9223372036854775808 ≤ x.i ∧ x.i ≤ 9223372036854775807)
def encL (x : Pl) : List Value := [.int .u64 (x.k : Nat), .bool x.e.a.v6, .int .u64 x.e.a.hi, .int .u64 x.e.a.lo, .int .i64 x.e.n, .int .i64 x.i]
theorem encL_len (x : Pl) : (encL x).length = 6 := rfl
theorem encL_one : ∀ x, ∀ u ∈ encL x, u.oneCell' = true := fun x u hu => by
  simp only [encL, List.mem_cons, List.not_mem_nil, or_false] at hu
  rcases hu with rfl | rfl | rfl | rfl | rfl | rfl <;> rfl
/-- Compared: by the number, then by the end. -/
def cmpL (x y : Pl) : Int := if x.k = y.k then cmpE x.e y.e else if x.k < y.k then -1 else 1
def loL (x y : Pl) : Bool := decide (cmpL x y < 0)
def ltL (x y : Pl) : Prop := cmpL x y < 0 ∨ (cmpL x y = 0 ∧ x.i < y.i)
instance (x y : Pl) : Decidable (ltL x y) := by unfold ltL; exact inferInstance
theorem cmpL_flip (x y : Pl) : cmpL x y = -cmpL y x := by
  unfold cmpL
  by_cases h : x.k = y.k
  · rw [if_pos h, if_pos h.symm, cmpE_flip]
  · rw [if_neg h, if_neg (show ¬ y.k = x.k by omega)]
    by_cases h2 : x.k < y.k
    · rw [if_pos h2, if_neg (by omega)]
    · rw [if_neg h2, if_pos (by omega)]; rfl
theorem cmpL_zero (x y : Pl) : cmpL x y = 0 ↔ x.k = y.k ∧ x.e = y.e := by
  unfold cmpL
  by_cases h : x.k = y.k
  · rw [if_pos h, cmpE_zero]; exact ⟨fun e => ⟨h, e⟩, fun e => e.2⟩
  · rw [if_neg h]
    constructor
    · intro e; split at e <;> omega
    · intro e; exact (h e.1).elim
theorem cmpL_le {x y z : Pl} (h1 : cmpL x y ≤ 0) (h2 : cmpL y z ≤ 0) : cmpL x z ≤ 0 := by
  unfold cmpL at *
  by_cases a : x.k = y.k
  · rw [if_pos a] at h1
    by_cases b : y.k = z.k
    · rw [if_pos b] at h2
      rw [if_pos (a.trans b)]; exact cmpE_le h1 h2
    · rw [if_neg b] at h2
      rw [if_neg (by omega), a]; exact h2
  · rw [if_neg a] at h1
    have a2 : x.k < y.k := by
      by_cases c : x.k < y.k
      · exact c
      · rw [if_neg c] at h1; omega
    by_cases b : y.k = z.k
    · rw [if_neg (by omega), if_pos (by omega)]; omega
    · rw [if_neg b] at h2
      have b2 : y.k < z.k := by
        by_cases c : y.k < z.k
        · exact c
        · rw [if_neg c] at h2; omega
      rw [if_neg (by omega), if_pos (by omega)]; omega
theorem cmpL_same {x y z : Pl} (h : cmpL x y = 0) : cmpL x z = cmpL y z ∧ cmpL z x = cmpL z y := by
  obtain ⟨h1, h2⟩ := (cmpL_zero x y).1 h
  unfold cmpL
  rw [h1, h2]; exact ⟨rfl, rfl⟩
theorem ltL_trans {x y z : Pl} (h1 : ltL x y) (h2 : ltL y z) : ltL x z := by
  rcases h1 with h1 | ⟨h1, i1⟩
  · rcases h2 with h2 | ⟨h2, i2⟩
    · left
      have h := cmpL_le (x := x) (y := y) (z := z) (by omega) (by omega)
      by_cases e : cmpL x z = 0
      · have k := (cmpL_same (z := y) e).2
        have f := cmpL_flip y x
        have f2 := cmpL_flip y z
        omega
      · omega
    · left
      have := (cmpL_same (z := x) h2).2
      omega
  · have e := (cmpL_same (z := z) h1).1
    rcases h2 with h2 | ⟨h2, i2⟩
    · left; omega
    · right; exact ⟨by omega, by omega⟩
theorem ltL_irr (x : Pl) : ¬ ltL x x := by
  have := (cmpL_zero x x).2 ⟨rfl, rfl⟩
  unfold ltL; omega
theorem ltL_asy (x y : Pl) (h : ltL x y) : ¬ ltL y x := fun k => ltL_irr x (ltL_trans h k)
theorem ordL : Ord loL ltL Pl.i where
  tr := ltL_trans
  no := fun {x y} _ h => Or.inl (by simpa [loL] using h)
  yes := fun {x y} hi h => by
    have f := cmpL_flip x y
    have h2 : ¬ cmpL y x < 0 := by simpa [loL] using h
    unfold ltL
    omega
/-- A number without a sign: negative ones become the lesser half. -/
def rise (n : Int) : Nat := (n + 9223372036854775808).toNat
def fall (n : Nat) : Nat := 18446744073709551615 - n
def numR (x : Pr) (b : Int) (s : Nat) : Nat := if b = 1 then fall (mixN s (groupN x.e.a)) else if b = 2 then rise x.g else if b = 3 then fall (rise x.k) else if b = 4 then rise x.t else 0
def endR (x : Pr) (b : Int) : Endp := if b = 1 ∨ b = 2 ∨ b = 3 ∨ b = 4 then x.e else zeroE
def placeR (x : Pr) (b : Int) (s : Nat) (i : Int) : Pl := ⟨numR x b s, endR x b, i⟩
def countsR (x : Pr) (b : Int) : Bool := decide (b = 1 ∨ b = 4 ∨ (b = 2 ∧ 0 < x.g) ∨ (b = 3 ∧ 0 < x.k))
def aheadR (x y : Pr) (b : Int) (s : Nat) : Bool := loL (placeR x b s 0) (placeR y b s 0)
def cntTo (l : List Pr) (b : Int) (k : Nat) : List Nat := (List.range k).filter fun i => countsR l[i]! b
def placesTo (l : List Pr) (b : Int) (s k : Nat) : List Pl := (cntTo l b k).map fun i : Nat => placeR l[i]! b s (i : Int)
def leR (l : List Pr) (b : Int) (s : Nat) (i j : Nat) : Bool := !decide (ltL (placeR l[j]! b s j) (placeR l[i]! b s i))
/-- The places of all that count, in order. -/
def ordR (l : List Pr) (b : Int) (s : Nat) : List Nat := (cntTo l b l.length).mergeSort (leR l b s)
def firstR (l : List Pr) (b n : Int) (s : Nat) : List Nat := (ordR l b s).take n.toNat
def beforeR (l : List Pr) (i : Nat) (b : Int) (s k : Nat) : List Nat := (List.range k).filter fun j => countsR l[j]! b && aheadR l[j]! l[i]! b s
def rankR (l : List Pr) (i b : Int) (s : Nat) : Int := if 0 ≤ i ∧ i < l.length then ((beforeR l i.toNat b s l.length).length : Int) else -1
theorem rise_lt {n : Int} (h : -9223372036854775808 ≤ n ∧ n ≤ 9223372036854775807) : rise n < 18446744073709551616 := by unfold rise; omega
theorem fall_lt (n : Nat) : fall n < 18446744073709551616 := by unfold fall; omega
theorem num_lt {x : Pr} (hx : x.ok) (b : Int) (s : Nat) : numR x b s < 18446744073709551616 := by
  unfold numR
  split
  · exact fall_lt _
  · split
    · exact rise_lt hx.2.2.2.1
    · split
      · exact fall_lt _
      · split
        · exact rise_lt hx.2.1
        · decide
theorem zeroE_ok : zeroE.ok := ⟨⟨by decide, by decide⟩, by decide, by decide⟩
theorem place_ok {x : Pr} (hx : x.ok) (b : Int) (s : Nat) {i : Int} (hi : -9223372036854775808 ≤ i ∧ i ≤ 9223372036854775807) : (placeR x b s i).ok := by
  refine ⟨num_lt hx b s, ?_, hi⟩
  show (endR x b).ok
  unfold endR
  split
  · exact hx.1
  · exact zeroE_ok
theorem cntTo_succ_yes {l : List Pr} {b : Int} {k : Nat} (h : countsR l[k]! b = true) : cntTo l b (k + 1) = cntTo l b k ++ [k] := by
  unfold cntTo; rw [List.range_succ, List.filter_append]; simp only [List.filter_cons, h, if_true, List.filter_nil, List.append_nil, if_false, Bool.false_eq_true]
theorem cntTo_succ_no {l : List Pr} {b : Int} {k : Nat} (h : countsR l[k]! b = false) : cntTo l b (k + 1) = cntTo l b k := by
  unfold cntTo; rw [List.range_succ, List.filter_append]; simp only [List.filter_cons, h, if_true, List.filter_nil, List.append_nil, if_false, Bool.false_eq_true]
theorem cntTo_le (l : List Pr) (b : Int) (k : Nat) : (cntTo l b k).length ≤ k := by
  unfold cntTo
  have := List.length_filter_le (fun i => countsR l[i]! b) (List.range k)
  simpa using this
theorem cntTo_mem {l : List Pr} {b : Int} {k i : Nat} : i ∈ cntTo l b k ↔ i < k ∧ countsR l[i]! b = true := by unfold cntTo; simp
theorem cntTo_sorted (l : List Pr) (b : Int) (k : Nat) : (cntTo l b k).Pairwise (· < ·) := by
  unfold cntTo; exact List.Pairwise.filter _ List.pairwise_lt_range
theorem ltL_place (l : List Pr) (b : Int) (s : Nat) (i j : Nat) (h : i ≠ j) : ltL (placeR l[i]! b s i) (placeR l[j]! b s j) ∨ ltL (placeR l[j]! b s j) (placeR l[i]! b s i) := by
  have f := cmpL_flip (placeR l[i]! b s i) (placeR l[j]! b s j)
  unfold ltL
  have e1 : (placeR l[i]! b s i).i = (i : Int) := rfl
  have e2 : (placeR l[j]! b s j).i = (j : Int) := rfl
  rw [e1, e2]
  omega
theorem ordR_mem {l : List Pr} {b : Int} {s i : Nat} : i ∈ ordR l b s ↔ i < l.length ∧ countsR l[i]! b = true := by
  unfold ordR; rw [List.mem_mergeSort, cntTo_mem]
theorem ordR_length (l : List Pr) (b : Int) (s : Nat) : (ordR l b s).length = (cntTo l b l.length).length := by unfold ordR; rw [List.length_mergeSort]
theorem ordR_le (l : List Pr) (b : Int) (s : Nat) : (ordR l b s).length ≤ l.length := by rw [ordR_length]; exact cntTo_le l b _
/-- Each stands strictly ahead of those behind it. -/
theorem ordR_sorted (l : List Pr) (b : Int) (s : Nat) : (ordR l b s).Pairwise fun i j : Nat => ltL (placeR l[i]! b s (i : Int)) (placeR l[j]! b s (j : Int)) := by
  have h1 := List.pairwise_mergeSort (le := leR l b s) (fun x y z h1 h2 => by
    unfold leR at *
    simp only [Bool.not_eq_true', decide_eq_false_iff_not] at *
    intro h
    by_cases e : x = y
    · subst e; exact h2 h
    · by_cases e2 : y = z
      · subst e2; exact h1 h
      · have k1 := (ltL_place l b s x y e).resolve_right h1
        have k2 := (ltL_place l b s y z e2).resolve_right h2
        exact ltL_asy _ _ (ltL_trans k1 k2) h) (fun x y => by
    unfold leR
    cases h : decide (ltL (placeR l[y]! b s y) (placeR l[x]! b s x))
    · rfl
    · have := ltL_asy _ _ (of_decide_eq_true h)
      simp only [decide_eq_false this]; rfl) (cntTo l b l.length)
  have hn : (ordR l b s).Nodup := by
    unfold ordR
    refine (List.mergeSort_perm _ _).nodup_iff.2 ?_
    exact (cntTo_sorted l b _).imp fun {a c} h => Nat.ne_of_lt h
  refine (h1.and hn).imp fun {i j} ⟨h, hne⟩ => ?_
  unfold leR at h
  simp only [Bool.not_eq_true', decide_eq_false_iff_not] at h
  exact (ltL_place l b s i j hne).resolve_right h
theorem placesTo_length (l : List Pr) (b : Int) (s k : Nat) : (placesTo l b s k).length = (cntTo l b k).length := by simp [placesTo]
/-- Sorted, the places of all that count are those of the order. -/
theorem places_sorted {l : List Pr} {b : Int} {s : Nat} {L : List Pl} (h : L.Pairwise ltL) (hm : ∀ x, x ∈ L ↔ x ∈ placesTo l b s l.length) : L = (ordR l b s).map fun i : Nat => placeR l[i]! b s (i : Int) := by
  refine sorted_one ltL_irr ltL_asy h ?_ fun x => ?_
  · rw [List.pairwise_map]; exact ordR_sorted l b s
  · rw [hm]
    unfold placesTo
    simp only [List.mem_map, cntTo_mem, ordR_mem]
theorem places_asc (l : List Pr) (b : Int) (s k : Nat) : (placesTo l b s k).Pairwise fun x y => x.i < y.i := by
  unfold placesTo
  rw [List.pairwise_map]
  exact (cntTo_sorted l b k).imp fun {a c} h => by show (a : Int) < (c : Int); omega
theorem places_ok {l : List Pr} {b : Int} {s k : Nat} (hl : ∀ x ∈ l, x.ok) (hk : k ≤ l.length) (hn : l.length ≤ 1000000) : ∀ x ∈ placesTo l b s k, x.ok := fun x hx => by
  obtain ⟨i, hi, rfl⟩ := List.mem_map.1 hx
  have h1 := cntTo_mem.1 hi
  refine place_ok ?_ b s (by omega)
  rw [getElem!_pos l i (by omega)]
  exact hl _ (List.getElem_mem _)
theorem placesTo_yes {l : List Pr} {b : Int} {s k : Nat} (h : countsR l[k]! b = true) : placesTo l b s (k + 1) = placesTo l b s k ++ [placeR l[k]! b s k] := by
  unfold placesTo; rw [cntTo_succ_yes h, List.map_append]; rfl
theorem placesTo_no {l : List Pr} {b : Int} {s k : Nat} (h : countsR l[k]! b = false) : placesTo l b s (k + 1) = placesTo l b s k := by
  unfold placesTo; rw [cntTo_succ_no h]
theorem before_yes {l : List Pr} {i : Nat} {b : Int} {s k : Nat} (h : (countsR l[k]! b && aheadR l[k]! l[i]! b s) = true) : (beforeR l i b s (k + 1)).length = (beforeR l i b s k).length + 1 := by
  unfold beforeR; rw [List.range_succ, List.filter_append, List.length_append]
  simp only [List.filter_cons, h, if_true, List.filter_nil, List.length_cons, List.length_nil]
theorem before_no {l : List Pr} {i : Nat} {b : Int} {s k : Nat} (h : (countsR l[k]! b && aheadR l[k]! l[i]! b s) = false) : (beforeR l i b s (k + 1)).length = (beforeR l i b s k).length := by
  unfold beforeR; rw [List.range_succ, List.filter_append, List.length_append]
  simp only [List.filter_cons, h, List.filter_nil, List.length_nil, Bool.false_eq_true, if_false, Nat.add_zero]
theorem before_le (l : List Pr) (i : Nat) (b : Int) (s k : Nat) : (beforeR l i b s k).length ≤ k := by
  unfold beforeR
  have := List.length_filter_le (fun j => countsR l[j]! b && aheadR l[j]! l[i]! b s) (List.range k)
  simpa using this
end Go.Proofs.Ythpimcnbfhogdaa.Ra
