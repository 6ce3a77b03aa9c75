/- Of layer 18 (rank), in plain words: one after the other picked, as the document has it; the order of peers with unlike ends, however they are turned; ranks and places. -/
import Derived.Test.YtbonfmjalgfgaaaRankMath
namespace Go.Proofs.Ytbonfmjalgfgaaa.Ra
set_option maxRecDepth 100000
set_option linter.unusedVariables false
open Dec Words V4 V6 Ad Ci En Sat Ha Pe Stb Gr Mi
abbrev plR (l : List Pr) (b : Int) (s : Nat) (i : Nat) : Pl := placeR l[i]! b s (i : Int)
theorem cmp_plR (l : List Pr) (b : Int) (s i j : Nat) : cmpL (plR l b s i) (plR l b s j) = cmpL (placeR l[i]! b s 0) (placeR l[j]! b s 0) := rfl
/-- Who is picked of the first i, if those of the first k of the order are used. -/
def PickR (l : List Pr) (b : Int) (s k i : Nat) (a : Int) : Prop :=
  (a = -1 ∧ ∀ j, j < i → j ∉ (ordR l b s).take k → countsR l[j]! b = false) ∨
  ∃ m : Nat, a = (m : Int) ∧ m < i ∧ m ∉ (ordR l b s).take k ∧ countsR l[m]! b = true ∧ ∀ j, j < i → j ∉ (ordR l b s).take k → countsR l[j]! b = true → j ≠ m → ltL (plR l b s m) (plR l b s j)
section
variable {l : List Pr} {b : Int} {s k i : Nat} {a : Int}
theorem pick_start : PickR l b s k 0 (-1) := Or.inl ⟨rfl, fun j hj => by omega⟩
theorem pick_skip (h : PickR l b s k i a) (hs : i ∈ (ordR l b s).take k ∨ countsR l[i]! b = false) : PickR l b s k (i + 1) a := by
  rcases h with ⟨h1, h2⟩ | ⟨m, h1, h2, h3, h4, h5⟩
  · refine Or.inl ⟨h1, fun j hj hu => ?_⟩
    by_cases e : j = i
    · subst e
      rcases hs with hs | hs
      · exact (hu hs).elim
      · exact hs
    · exact h2 j (by omega) hu
  · refine Or.inr ⟨m, h1, by omega, h3, h4, fun j hj hu hc hne => ?_⟩
    by_cases e : j = i
    · subst e
      rcases hs with hs | hs
      · exact (hu hs).elim
      · rw [hs] at hc; cases hc
    · exact h5 j (by omega) hu hc hne
theorem pick_first (h : PickR l b s k i a) (ha : a < 0) (hu : i ∉ (ordR l b s).take k) (hc : countsR l[i]! b = true) : PickR l b s k (i + 1) (i : Int) := by
  rcases h with ⟨h1, h2⟩ | ⟨m, h1, _⟩
  · refine Or.inr ⟨i, rfl, by omega, hu, hc, fun j hj hu2 hc2 hne => ?_⟩
    have := h2 j (by omega) hu2
    rw [this] at hc2; cases hc2
  · omega
theorem pick_better {m : Nat} (h : PickR l b s k i (m : Int)) (hu : i ∉ (ordR l b s).take k) (hc : countsR l[i]! b = true) (hq : aheadR l[i]! l[m]! b s = true) : PickR l b s k (i + 1) (i : Int) := by
  rcases h with ⟨h1, h2⟩ | ⟨m2, h1, h2, h3, h4, h5⟩
  · omega
  · obtain rfl : m = m2 := by omega
    have hlt : ltL (plR l b s i) (plR l b s m) := by
      left
      rw [cmp_plR]
      simpa [aheadR, loL] using hq
    refine Or.inr ⟨i, rfl, by omega, hu, hc, fun j hj hu2 hc2 hne => ?_⟩
    by_cases e : j = m
    · subst e; exact hlt
    · exact ltL_trans hlt (h5 j (by omega) hu2 hc2 e)
theorem pick_worse {m : Nat} (h : PickR l b s k i (m : Int)) (hq : aheadR l[i]! l[m]! b s = false) : PickR l b s k (i + 1) (m : Int) := by
  rcases h with ⟨h1, h2⟩ | ⟨m2, h1, h2, h3, h4, h5⟩
  · omega
  · obtain rfl : m = m2 := by omega
    refine Or.inr ⟨m, rfl, by omega, h3, h4, fun j hj hu2 hc2 hne => ?_⟩
    by_cases e : j = i
    · subst e
      have hn : ¬ cmpL (placeR l[j]! b s 0) (placeR l[m]! b s 0) < 0 := by simpa [aheadR, loL] using hq
      have hf := cmpL_flip (placeR l[j]! b s 0) (placeR l[m]! b s 0)
      unfold ltL
      rw [cmp_plR]
      show _ ∨ (_ ∧ (m : Int) < (j : Int))
      omega
    · exact h5 j (by omega) hu2 hc2 hne
theorem ord_at (hk : k < (ordR l b s).length) : (ordR l b s)[k] ∉ (ordR l b s).take k := by
  intro h
  obtain ⟨q, hq, e⟩ := List.getElem_of_mem h
  rw [List.length_take] at hq
  rw [List.getElem_take] at e
  have := List.pairwise_iff_getElem.1 (ordR_sorted l b s) q k (by omega) hk (by omega)
  rw [e] at this
  exact ltL_irr _ this
theorem pick_none (h : PickR l b s k l.length a) (ha : a < 0) (hk : k ≤ (ordR l b s).length) : k = (ordR l b s).length := by
  rcases h with ⟨h1, h2⟩ | ⟨m, h1, _⟩
  · refine Nat.le_antisymm hk (Nat.le_of_not_lt fun hlt => ?_)
    have hm := ordR_mem.1 (List.getElem_mem hlt)
    have := h2 _ hm.1 (ord_at hlt)
    rw [hm.2] at this; cases this
  · omega
theorem pick_one {m : Nat} (h : PickR l b s k l.length (m : Int)) : k < (ordR l b s).length ∧ (ordR l b s)[k]! = m ∧ m < l.length := by
  rcases h with ⟨h1, h2⟩ | ⟨m2, h1, h2, h3, h4, h5⟩
  · omega
  · obtain rfl : m = m2 := by omega
    have hmO : m ∈ ordR l b s := ordR_mem.2 ⟨h2, h4⟩
    obtain ⟨p, hp, e⟩ := List.getElem_of_mem hmO
    have hkp : k ≤ p := Nat.le_of_not_lt fun hlt => h3 (by
      rw [← e]
      have : ((ordR l b s).take k)[p]'(by rw [List.length_take]; omega) = (ordR l b s)[p] := List.getElem_take
      rw [← this]
      exact List.getElem_mem _)
    have hk : k < (ordR l b s).length := by omega
    refine ⟨hk, ?_, h2⟩
    rw [getElem!_pos _ k hk]
    by_cases ekp : p = k
    · subst ekp; exact e
    · have hs := List.pairwise_iff_getElem.1 (ordR_sorted l b s) k p hk hp (by omega)
      rw [e] at hs
      have hm := ordR_mem.1 (List.getElem_mem hk)
      have hne : (ordR l b s)[k] ≠ m := fun e2 => by rw [e2] at hs; exact ltL_irr _ hs
      exact (ltL_asy _ _ hs (h5 _ hm.1 (ord_at hk) hm.2 hne)).elim
/-- Those used behind one more. -/
theorem used_next {j : Nat} (hk : k < (ordR l b s).length) : (j ∈ (ordR l b s).take (k + 1)) ↔ (j = (ordR l b s)[k]! ∨ j ∈ (ordR l b s).take k) := by
  rw [List.take_succ_eq_append_getElem hk, List.mem_append, getElem!_pos _ k hk]
  simp only [List.mem_singleton]
  exact Or.comm
theorem take_next (hk : k < (ordR l b s).length) : (ordR l b s).take (k + 1) = (ordR l b s).take k ++ [(ordR l b s)[k]!] := by
  rw [List.take_succ_eq_append_getElem hk, getElem!_pos _ k hk]
theorem take_done {n : Int} (hk : k ≤ n.toNat) (h : ¬ (k : Int) < n ∨ (ordR l b s).length ≤ k) : (ordR l b s).take k = firstR l b n s := by
  unfold firstR
  rcases h with h | h
  · rw [show n.toNat = k by omega]
  · rw [List.take_of_length_le h, List.take_of_length_le (by omega)]
end
end Go.Proofs.Ytbonfmjalgfgaaa.Ra
/- Of layer 18 (rank), in plain words: peers with unlike ends stand in just one order, however they are turned; the first are those whose rank is below their number. -/
namespace Go.Proofs.Ytbonfmjalgfgaaa.Ra
set_option maxRecDepth 100000
set_option linter.unusedVariables false
open Dec Words V4 V6 Ad Ci En Sat Ha Pe Stb Gr Mi
/-- No two have one end. -/
def Unlike (l : List Pr) : Prop := l.Pairwise fun x y => x.e ≠ y.e
def ltP (b : Int) (s : Nat) (x y : Pr) : Prop := cmpL (placeR x b s 0) (placeR y b s 0) < 0
theorem counts_by {x : Pr} {b : Int} (h : countsR x b = true) : b = 1 ∨ b = 2 ∨ b = 3 ∨ b = 4 := by
  unfold countsR at h
  have := of_decide_eq_true h
  omega
theorem cmp_ends {x y : Pr} {b : Int} {s : Nat} (hb : b = 1 ∨ b = 2 ∨ b = 3 ∨ b = 4) (h : cmpL (placeR x b s 0) (placeR y b s 0) = 0) : x.e = y.e := by
  have e := ((cmpL_zero _ _).1 h).2
  unfold placeR endR at e
  simp only [if_pos hb] at e
  exact e
theorem unlike_at {l : List Pr} (h : Unlike l) {i j : Nat} (hi : i < l.length) (hj : j < l.length) (e : (l[i]!).e = (l[j]!).e) : i = j := by
  rw [getElem!_pos l i hi, getElem!_pos l j hj] at e
  have h2 := List.pairwise_iff_getElem.1 h
  rcases Nat.lt_trichotomy i j with c | c | c
  · exact (h2 i j hi hj c e).elim
  · exact c
  · exact (h2 j i hj hi c e.symm).elim
theorem ltP_of {l : List Pr} {b : Int} {s : Nat} (h : Unlike l) {i j : Nat} (hi : i < l.length) (hj : j < l.length) (hb : b = 1 ∨ b = 2 ∨ b = 3 ∨ b = 4) (hl : ltL (plR l b s i) (plR l b s j)) : ltP b s l[i]! l[j]! := by
  rcases hl with hl | ⟨h0, hlt⟩
  · rw [cmp_plR] at hl; exact hl
  · rw [cmp_plR] at h0
    have := unlike_at h hi hj (cmp_ends hb h0)
    have h2 : (i : Int) < (j : Int) := hlt
    omega
theorem ltP_irr (b : Int) (s : Nat) (x : Pr) : ¬ ltP b s x x := by
  have := (cmpL_zero (placeR x b s 0) (placeR x b s 0)).2 ⟨rfl, rfl⟩
  unfold ltP; omega
theorem ltP_asy (b : Int) (s : Nat) (x y : Pr) (h : ltP b s x y) : ¬ ltP b s y x := by
  have := cmpL_flip (placeR x b s 0) (placeR y b s 0)
  unfold ltP at *; omega
theorem map_sorted {l : List Pr} {b : Int} {s : Nat} (h : Unlike l) : ((ordR l b s).map fun i : Nat => l[i]!).Pairwise (ltP b s) := by
  rw [List.pairwise_map]
  have hs := ordR_sorted l b s
  rw [List.pairwise_iff_getElem] at hs ⊢
  intro i j hi hj hij
  have mi := ordR_mem.1 (List.getElem_mem hi)
  have mj := ordR_mem.1 (List.getElem_mem hj)
  exact ltP_of h mi.1 mj.1 (counts_by mi.2) (hs i j hi hj hij)
theorem map_mem {l : List Pr} {b : Int} {s : Nat} (x : Pr) : x ∈ ((ordR l b s).map fun i : Nat => l[i]!) ↔ x ∈ l ∧ countsR x b = true := by
  simp only [List.mem_map, ordR_mem]
  constructor
  · rintro ⟨i, ⟨hi, hc⟩, rfl⟩
    refine ⟨?_, hc⟩
    rw [getElem!_pos l i hi]
    exact List.getElem_mem _
  · rintro ⟨hx, hc⟩
    obtain ⟨i, hi, rfl⟩ := List.getElem_of_mem hx
    exact ⟨i, ⟨hi, by rw [getElem!_pos l i hi]; exact hc⟩, getElem!_pos l i hi⟩
def turnR (l : List Pr) (k : Nat) : List Pr := l.drop k ++ l.take k
theorem turn_perm (l : List Pr) (k : Nat) : (turnR l k).Perm l := by
  unfold turnR
  exact List.perm_append_comm.trans (by rw [List.take_append_drop])
theorem turn_length (l : List Pr) (k : Nat) : (turnR l k).length = l.length := (turn_perm l k).length_eq
theorem turn_unlike {l : List Pr} (h : Unlike l) (k : Nat) : Unlike (turnR l k) := ((turn_perm l k).pairwise_iff (fun h e => h e.symm)).2 h
theorem order_one {l : List Pr} (h : Unlike l) (k : Nat) (b : Int) (s : Nat) : ((ordR l b s).map fun i : Nat => l[i]!) = ((ordR (turnR l k) b s).map fun i : Nat => (turnR l k)[i]!) := by
  refine sorted_one (ltP_irr b s) (ltP_asy b s) (map_sorted h) (map_sorted (turn_unlike h k)) fun x => ?_
  rw [map_mem, map_mem, (turn_perm l k).mem_iff]
theorem first_one {l : List Pr} (h : Unlike l) (k : Nat) (b n : Int) (s : Nat) : ((firstR l b n s).map fun i : Nat => l[i]!) = ((firstR (turnR l k) b n s).map fun i : Nat => (turnR l k)[i]!) := by
  unfold firstR
  rw [List.map_take, List.map_take, order_one h k b s]
theorem first_length {l : List Pr} (h : Unlike l) (k : Nat) (b n : Int) (s : Nat) : (firstR l b n s).length = (firstR (turnR l k) b n s).length := by
  have := congrArg List.length (first_one h k b n s)
  simpa using this
theorem first_at {l : List Pr} (h : Unlike l) (k : Nat) (b n : Int) (s : Nat) {i : Nat} (hi : i < (firstR l b n s).length) : l[(firstR l b n s)[i]!]! = (turnR l k)[(firstR (turnR l k) b n s)[i]!]! := by
  have hl := first_length h k b n s
  have e := congrArg (fun L => L[i]?) (first_one h k b n s)
  simp only [List.getElem?_map, List.getElem?_eq_getElem hi, List.getElem?_eq_getElem (hl ▸ hi), Option.map_some, Option.some.injEq] at e
  rw [getElem!_pos (firstR l b n s) i hi, getElem!_pos (firstR (turnR l k) b n s) i (hl ▸ hi)]
  exact e
theorem first_mem {l : List Pr} {b n : Int} {s i : Nat} (h : i ∈ firstR l b n s) : i < l.length := by
  unfold firstR at h
  exact (ordR_mem.1 (List.mem_of_mem_take h)).1
theorem first_lt {l : List Pr} {b n : Int} {s i : Nat} (hi : i < (firstR l b n s).length) : (firstR l b n s)[i]! < l.length := by
  rw [getElem!_pos _ i hi]; exact first_mem (List.getElem_mem _)
/-- As many stand ahead of one as stand ahead of it in the order. -/
theorem rank_at {l : List Pr} (h : Unlike l) {b : Int} {s p : Nat} (hp : p < (ordR l b s).length) : (beforeR l (ordR l b s)[p] b s l.length).length = p := by
  have hm := ordR_mem.1 (List.getElem_mem hp)
  have hs := List.pairwise_iff_getElem.1 (ordR_sorted l b s)
  have hnO : (ordR l b s).Nodup := (ordR_sorted l b s).imp fun {i j} hl e => by subst e; exact ltL_irr _ hl
  have hn1 : (beforeR l (ordR l b s)[p] b s l.length).Nodup := by
    unfold beforeR; exact List.Pairwise.filter _ List.nodup_range
  have hn2 : ((ordR l b s).take p).Nodup := List.Pairwise.sublist (List.take_sublist _ _) hnO
  have e : (beforeR l (ordR l b s)[p] b s l.length).Perm ((ordR l b s).take p) := by
    rw [List.perm_ext_iff_of_nodup hn1 hn2]
    intro i
    unfold beforeR
    rw [List.mem_filter, List.mem_range, Bool.and_eq_true]
    constructor
    · rintro ⟨hi, hc, ha⟩
      have hlt : cmpL (placeR l[i]! b s 0) (placeR l[(ordR l b s)[p]]! b s 0) < 0 := by simpa [aheadR, loL] using ha
      obtain ⟨q, hq, rfl⟩ := List.getElem_of_mem (ordR_mem (s := s).2 ⟨hi, hc⟩)
      have hqp : q < p := by
        rcases Nat.lt_trichotomy q p with c | c | c
        · exact c
        · subst c
          exact (ltP_irr b s _ hlt).elim
        · have := hs p q hp hq c
          have h2 : ltL (plR l b s (ordR l b s)[q]) (plR l b s (ordR l b s)[p]) := Or.inl (by rw [cmp_plR]; exact hlt)
          exact (ltL_asy _ _ this h2).elim
      have : ((ordR l b s).take p)[q]'(by rw [List.length_take]; omega) = (ordR l b s)[q] := List.getElem_take
      rw [← this]
      exact List.getElem_mem _
    · intro hi
      obtain ⟨q, hq, e⟩ := List.getElem_of_mem hi
      rw [List.length_take] at hq
      rw [List.getElem_take] at e
      subst e
      have mq := ordR_mem.1 (List.getElem_mem (show q < (ordR l b s).length by omega))
      refine ⟨mq.1, mq.2, ?_⟩
      have := ltP_of h mq.1 hm.1 (counts_by mq.2) (hs q p (by omega) hp (by omega))
      unfold aheadR loL
      exact decide_eq_true this
  rw [e.length_eq, List.length_take]
  omega
theorem first_rank {l : List Pr} (h : Unlike l) {b n : Int} {s j : Nat} (hj : j < l.length) : decide (j ∈ firstR l b n s) = (countsR l[j]! b && decide (rankR l j b s < n)) := by
  have hr : rankR l j b s = ((beforeR l j b s l.length).length : Int) := by unfold rankR; rw [if_pos (by omega), Int.toNat_natCast]
  rw [hr]
  cases hc : countsR l[j]! b with
  | false =>
    rw [Bool.false_and, decide_eq_false_iff_not]
    intro hm
    unfold firstR at hm
    have := (ordR_mem.1 (List.mem_of_mem_take hm)).2
    rw [hc] at this; cases this
  | true =>
    rw [Bool.true_and, decide_eq_decide]
    obtain ⟨p, hp, rfl⟩ := List.getElem_of_mem (ordR_mem (s := s).2 ⟨hj, hc⟩)
    rw [rank_at h hp]
    have hnO : (ordR l b s).Nodup := (ordR_sorted l b s).imp fun {i j} hl e => by subst e; exact ltL_irr _ hl
    unfold firstR
    constructor
    · intro hm
      obtain ⟨q, hq, e⟩ := List.getElem_of_mem hm
      rw [List.length_take] at hq
      rw [List.getElem_take] at e
      have : q = p := by
        have h2 := List.pairwise_iff_getElem.1 hnO
        rcases Nat.lt_trichotomy q p with c | c | c
        · exact (h2 q p (by omega) hp c e).elim
        · exact c
        · exact (h2 p q hp (by omega) c e.symm).elim
      omega
    · intro hlt
      have : ((ordR l b s).take n.toNat)[p]'(by rw [List.length_take]; omega) = (ordR l b s)[p] := List.getElem_take
      rw [← this]
      exact List.getElem_mem _
/-- The order is known by its list. -/
theorem ordR_is {l : List Pr} {b : Int} {s : Nat} {L : List Nat} (hs : L.Pairwise fun i j : Nat => ltL (placeR l[i]! b s (i : Int)) (placeR l[j]! b s (j : Int))) (hm : ∀ x, x ∈ L ↔ x < l.length ∧ countsR l[x]! b = true) : ordR l b s = L :=
  sorted_one (lt := fun i j : Nat => ltL (placeR l[i]! b s (i : Int)) (placeR l[j]! b s (j : Int))) (fun x => ltL_irr _) (fun x y => ltL_asy _ _) (ordR_sorted l b s) hs fun x => by rw [ordR_mem, hm]
end Go.Proofs.Ytbonfmjalgfgaaa.Ra
