/- Of layer 19 (shield), in plain words: who is protected, order by order; who is left; who is among the first of all; how many they are. -/
import Derived.Test.YthmcggbmeabpmaaRankTurns
namespace Go.Proofs.Ythmcggbmeabpmaa.Sh
set_option maxRecDepth 100000
set_option linter.unusedVariables false
open Dec Words V4 V6 Ad Ci En Sat Ha Pe Stb Gr Mi Ra
/-- Four quotas: by group, latency, work, time. -/
structure Qt where
  (g p w t : Int)
def I64 (n : Int) : Prop := -9223372036854775808 ≤ n ∧ n ≤ 9223372036854775807
def Qt.ok (q : Qt) : Prop := I64 q.g ∧ I64 q.p ∧ I64 q.w ∧ I64 q.t
def Qt.by (q : Qt) (b : Int) : Int := if b = 1 then q.g else if b = 2 then q.p else if b = 3 then q.w else q.t
/-- Who is saved, and the first k of a list. -/
def upto (S : Nat → Bool) (O : List Nat) (k : Nat) : Nat → Bool := fun p => S p || decide (p ∈ O.take k)
def restR (n : Nat) (S : Nat → Bool) : List Nat := (List.range n).filter fun i => !S i
/-- Those that nobody saved, in order. -/
def ordX (l : List Pr) (b : Int) (s : Nat) (S : Nat → Bool) : List Nat := (ordR l b s).filter fun i => !S i
def savedR (l : List Pr) (q : Qt) (s : Nat) : Nat → Nat → Bool
  | 0 => fun _ => false
  | k + 1 => upto (savedR l q s k) (ordX l ((k + 1 : Nat) : Int) s (savedR l q s k)) (q.by ((k + 1 : Nat) : Int)).toNat
def leftR (l : List Pr) (q : Qt) (s : Nat) : List Nat := restR l.length (savedR l q s 4)
def inR (l : List Pr) (i : Nat) (q : Qt) (s : Nat) (b : Int) : Bool := countsR l[i]! b && decide (rankR l (i : Int) b s < q.by b)
def insR (l : List Pr) (i : Nat) (q : Qt) (s : Nat) : Bool := inR l i q s 1 || inR l i q s 2 || inR l i q s 3 || inR l i q s 4
def insideR (l : List Pr) (i : Int) (q : Qt) (s : Nat) : Bool := decide (0 ≤ i ∧ i < l.length) && insR l i.toNat q s
section
variable {l : List Pr} {b : Int} {s k n : Nat} {S : Nat → Bool} {O : List Nat}
theorem upto_zero (S : Nat → Bool) (O : List Nat) : upto S O 0 = S := by funext p; simp [upto]
theorem upto_over (S : Nat → Bool) {O : List Nat} {k m : Nat} (h : O.length ≤ k) (h2 : O.length ≤ m) : upto S O k = upto S O m := by
  unfold upto
  rw [List.take_of_length_le h, List.take_of_length_le h2]
theorem upto_next (hk : k < O.length) (p : Nat) : upto S O (k + 1) p = (decide (p = O[k]!) || upto S O k p) := by
  unfold upto
  rw [List.take_succ_eq_append_getElem hk, getElem!_pos O k hk, Bool.eq_iff_iff]
  simp only [Bool.or_eq_true, decide_eq_true_eq, List.mem_append, List.mem_singleton]
  exact ⟨fun h => h.elim (fun h => .inr (.inl h)) fun h => h.elim (fun h => .inr (.inr h)) .inl, fun h => h.elim (fun h => .inr (.inr h)) fun h => h.elim .inl fun h => .inr (.inl h)⟩
abbrev bv (S : Nat → Bool) : Nat → Go.Value := fun j => .bool (S j)
theorem upto_set (hk : k < O.length) {m : Nat} (hm : O[k]! = m) (hn : m < n) : (ls n (bv (upto S O k))).set m (.bool true) = ls n (bv (upto S O (k + 1))) := by
  rw [ls_set _ _ hn]
  congr 1
  funext j
  unfold bv
  rw [upto_next hk, hm]
  by_cases e : j = m
  · rw [if_pos e, decide_eq_true e]; rfl
  · rw [if_neg e, decide_eq_false e]; rfl
theorem upto_done {q : Int} (hl : O.length ≤ n) (hk : k ≤ n) (hq : k ≤ q.toNat) (h : ¬ (k : Int) < q ∨ n ≤ k) : upto S O k = upto S O q.toNat := by
  rcases h with h | h
  · rw [show q.toNat = k by omega]
  · exact upto_over S (by omega) (by omega)
theorem rest_mem {i : Nat} : i ∈ restR n S ↔ i < n ∧ S i = false := by unfold restR; simp
theorem rest_sorted (n : Nat) (S : Nat → Bool) : (restR n S).Pairwise (· < ·) := by unfold restR; exact List.Pairwise.filter _ List.pairwise_lt_range
theorem rest_nodup (n : Nat) (S : Nat → Bool) : (restR n S).Nodup := (rest_sorted n S).imp fun h => by omega
theorem rest_le (n : Nat) (S : Nat → Bool) : (restR n S).length ≤ n := by
  have := List.length_filter_le (fun i => !S i) (List.range n)
  rwa [List.length_range] at this
theorem rest_at {i : Nat} (h : i < (restR n S).length) : (restR n S)[i]! < n ∧ S (restR n S)[i]! = false := by
  rw [getElem!_pos _ i h]; exact rest_mem.1 (List.getElem_mem h)
theorem rest_yes (h : S k = true) : restR (k + 1) S = restR k S := by unfold restR; rw [List.range_succ, List.filter_append]; simp [h]
theorem rest_no (h : S k = false) : restR (k + 1) S = restR k S ++ [k] := by unfold restR; rw [List.range_succ, List.filter_append]; simp [h]
theorem ordX_mem {i : Nat} : i ∈ ordX l b s S ↔ i < l.length ∧ countsR l[i]! b = true ∧ S i = false := by
  unfold ordX
  rw [List.mem_filter, ordR_mem]
  simp only [Bool.not_eq_true']
  exact and_assoc
theorem ordX_sorted (l : List Pr) (b : Int) (s : Nat) (S : Nat → Bool) : (ordX l b s S).Pairwise fun i j : Nat => ltL (plR l b s i) (plR l b s j) := by
  unfold ordX; exact List.Pairwise.filter _ (ordR_sorted l b s)
theorem ordX_nodup (l : List Pr) (b : Int) (s : Nat) (S : Nat → Bool) : (ordX l b s S).Nodup := (ordX_sorted l b s S).imp fun {i j} hl e => by subst e; exact ltL_irr _ hl
theorem ordX_le (l : List Pr) (b : Int) (s : Nat) (S : Nat → Bool) : (ordX l b s S).length ≤ l.length := Nat.le_trans (List.length_filter_le _ _) (ordR_le l b s)
/-- The peers that are left. -/
def thoseR (l : List Pr) (R : List Nat) : List Pr := R.map fun i => l[i]!
theorem those_length (l : List Pr) (R : List Nat) : (thoseR l R).length = R.length := by simp [thoseR]
theorem those_at {R : List Nat} {i : Nat} (h : i < R.length) : (thoseR l R)[i]! = l[R[i]!]! := by
  rw [getElem!_pos (thoseR l R) i (by rw [those_length]; exact h), getElem!_pos R i h]; simp [thoseR]
theorem those_ok (h : ∀ x ∈ l, x.ok) {R : List Nat} (hR : ∀ i ∈ R, i < l.length) : ∀ x ∈ thoseR l R, x.ok := by
  intro x hx
  obtain ⟨i, hi, rfl⟩ := List.mem_map.1 hx
  have := hR i hi
  rw [getElem!_pos l i this]
  exact h _ (List.getElem_mem _)
/-- The order of those that are left is the order of all, without the others. -/
theorem those_order (l : List Pr) (b : Int) (s : Nat) (S : Nat → Bool) : ((ordR (thoseR l (restR l.length S)) b s).map fun i : Nat => (restR l.length S)[i]!) = ordX l b s S := by
  refine sorted_one (lt := fun i j : Nat => ltL (plR l b s i) (plR l b s j)) (fun x => ltL_irr _) (fun x y => ltL_asy _ _) ?_ (ordX_sorted l b s S) fun x => ?_
  · rw [List.pairwise_map]
    have hs := ordR_sorted (thoseR l (restR l.length S)) b s
    rw [List.pairwise_iff_getElem] at hs ⊢
    intro i j hi hj hij
    have mi := (ordR_mem.1 (List.getElem_mem hi)).1
    have mj := (ordR_mem.1 (List.getElem_mem hj)).1
    have h := hs i j hi hj hij
    generalize (ordR (thoseR l (restR l.length S)) b s)[i] = x at h mi ⊢
    generalize (ordR (thoseR l (restR l.length S)) b s)[j] = y at h mj ⊢
    rw [those_length] at mi mj
    rw [those_at mi, those_at mj] at h
    rcases h with h | ⟨h0, hlt⟩
    · exact Or.inl h
    · refine Or.inr ⟨h0, ?_⟩
      have hxy : x < y := Int.ofNat_lt.1 hlt
      have := List.pairwise_iff_getElem.1 (rest_sorted l.length S) x y mi mj hxy
      rw [getElem!_pos (restR l.length S) x mi, getElem!_pos (restR l.length S) y mj]
      show ((restR l.length S)[x] : Int) < ((restR l.length S)[y] : Int)
      omega
  · rw [List.mem_map, ordX_mem]
    constructor
    · rintro ⟨i, hi, rfl⟩
      obtain ⟨h1, h2⟩ := ordR_mem.1 hi
      rw [those_length] at h1
      rw [those_at h1] at h2
      exact ⟨(rest_at h1).1, h2, (rest_at h1).2⟩
    · rintro ⟨h1, h2, h3⟩
      obtain ⟨i, hi, e⟩ := List.getElem_of_mem (rest_mem.2 ⟨h1, h3⟩)
      refine ⟨i, ordR_mem.2 ⟨by rw [those_length]; exact hi, ?_⟩, ?_⟩
      · rw [those_at hi, getElem!_pos _ i hi, e]; exact h2
      · rw [getElem!_pos _ i hi, e]
theorem those_first (l : List Pr) (b n : Int) (s : Nat) (S : Nat → Bool) : ((firstR (thoseR l (restR l.length S)) b n s).map fun i : Nat => (restR l.length S)[i]!) = (ordX l b s S).take n.toNat := by
  unfold firstR
  rw [List.map_take, those_order]
theorem those_first_length (l : List Pr) (b n : Int) (s : Nat) (S : Nat → Bool) : (firstR (thoseR l (restR l.length S)) b n s).length = ((ordX l b s S).take n.toNat).length := by
  rw [← those_first, List.length_map]
theorem those_first_at {n : Int} {i : Nat} (hi : i < (firstR (thoseR l (restR l.length S)) b n s).length) : i < (ordX l b s S).length ∧ i < n.toNat ∧ (firstR (thoseR l (restR l.length S)) b n s)[i]! < (restR l.length S).length ∧ (restR l.length S)[(firstR (thoseR l (restR l.length S)) b n s)[i]!]! = (ordX l b s S)[i]! ∧ (ordX l b s S)[i]! < l.length := by
  have hl := those_first_length l b n s S
  have h1 := hi
  rw [hl, List.length_take] at h1
  have hlt := first_lt hi
  rw [those_length] at hlt
  have e := congrArg (fun L => L[i]?) (those_first l b n s S)
  simp only [List.getElem?_map, List.getElem?_eq_getElem hi, Option.map_some, List.getElem?_take, if_pos (show i < n.toNat by omega), List.getElem?_eq_getElem (show i < (ordX l b s S).length by omega), Option.some.injEq] at e
  refine ⟨by omega, by omega, hlt, ?_, ?_⟩
  · rw [getElem!_pos (firstR _ b n s) i hi, e, getElem!_pos (ordX l b s S) i (by omega)]
  · rw [getElem!_pos (ordX l b s S) i (by omega)]
    exact (ordX_mem.1 (List.getElem_mem _)).1
theorem those_first_done (l : List Pr) (b n : Int) (s : Nat) (S : Nat → Bool) : upto S (ordX l b s S) (firstR (thoseR l (restR l.length S)) b n s).length = upto S (ordX l b s S) n.toNat := by
  rw [those_first_length, List.length_take]
  by_cases h : n.toNat ≤ (ordX l b s S).length
  · rw [Nat.min_eq_left h]
  · rw [Nat.min_eq_right (by omega)]
    exact upto_over S (Nat.le_refl _) (by omega)
/-- Who is picked of the first i, of those that are not used. -/
def PickU (l : List Pr) (b : Int) (s : Nat) (U : Nat → Bool) (i : Nat) (a : Int) : Prop :=
  (a = -1 ∧ ∀ j, j < i → U j = false → countsR l[j]! b = false) ∨
  ∃ m : Nat, a = (m : Int) ∧ m < i ∧ U m = false ∧ countsR l[m]! b = true ∧ ∀ j, j < i → U j = false → countsR l[j]! b = true → j ≠ m → ltL (plR l b s m) (plR l b s j)
end
section
variable {l : List Pr} {b : Int} {s i : Nat} {a : Int} {U : Nat → Bool}
theorem pickU_start : PickU l b s U 0 (-1) := Or.inl ⟨rfl, fun j hj => by omega⟩
theorem pickU_at (h : PickU l b s U i a) : (a < 0 ∨ ∃ m : Nat, a = (m : Int) ∧ m < i) := by
  rcases h with ⟨h1, _⟩ | ⟨m, h1, h2, _⟩
  · left; omega
  · exact Or.inr ⟨m, h1, h2⟩
theorem pickU_skip (h : PickU l b s U i a) (hs : U i = true ∨ countsR l[i]! b = false) : PickU l b s U (i + 1) a := by
  rcases h with ⟨h1, h2⟩ | ⟨m, h1, h2, h3, h4, h5⟩
  · refine Or.inl ⟨h1, fun j hj hu => ?_⟩
    by_cases e : j = i
    · subst e
      rcases hs with hs | hs
      · rw [hs] at hu; cases hu
      · exact hs
    · exact h2 j (by omega) hu
  · refine Or.inr ⟨m, h1, by omega, h3, h4, fun j hj hu hc hne => ?_⟩
    by_cases e : j = i
    · subst e
      rcases hs with hs | hs
      · rw [hs] at hu; cases hu
      · rw [hs] at hc; cases hc
    · exact h5 j (by omega) hu hc hne
theorem pickU_first (h : PickU l b s U i a) (ha : a < 0) (hu : U i = false) (hc : countsR l[i]! b = true) : PickU l b s U (i + 1) (i : Int) := by
  rcases h with ⟨h1, h2⟩ | ⟨m, h1, _⟩
  · refine Or.inr ⟨i, rfl, by omega, hu, hc, fun j hj hu2 hc2 hne => ?_⟩
    have := h2 j (by omega) hu2
    rw [this] at hc2; cases hc2
  · omega
theorem pickU_better {m : Nat} (h : PickU l b s U i (m : Int)) (hu : U i = false) (hc : countsR l[i]! b = true) (hq : aheadR l[i]! l[m]! b s = true) : PickU l b s U (i + 1) (i : Int) := by
  rcases h with ⟨h1, h2⟩ | ⟨m2, h1, h2, h3, h4, h5⟩
  · omega
  · obtain rfl : m = m2 := by omega
    have hlt : ltL (plR l b s i) (plR l b s m) := by
      left
      rw [cmp_plR]
      simpa [aheadR, loL] using hq
    refine Or.inr ⟨i, rfl, by omega, hu, hc, fun j hj hu2 hc2 hne => ?_⟩
    by_cases e : j = m
    · subst e; exact hlt
    · exact ltL_trans hlt (h5 j (by omega) hu2 hc2 e)
theorem pickU_worse {m : Nat} (h : PickU l b s U i (m : Int)) (hq : aheadR l[i]! l[m]! b s = false) : PickU l b s U (i + 1) (m : Int) := by
  rcases h with ⟨h1, h2⟩ | ⟨m2, h1, h2, h3, h4, h5⟩
  · omega
  · obtain rfl : m = m2 := by omega
    refine Or.inr ⟨m, rfl, by omega, h3, h4, fun j hj hu2 hc2 hne => ?_⟩
    by_cases e : j = i
    · subst e
      have hn : ¬ cmpL (placeR l[j]! b s 0) (placeR l[m]! b s 0) < 0 := by simpa [aheadR, loL] using hq
      have hf := cmpL_flip (placeR l[j]! b s 0) (placeR l[m]! b s 0)
      unfold ltL
      rw [cmp_plR]
      show _ ∨ (_ ∧ (m : Int) < (j : Int))
      omega
    · exact h5 j (by omega) hu2 hc2 hne
variable {S : Nat → Bool} {k : Nat}
theorem upto_false {O : List Nat} {p : Nat} : upto S O k p = false ↔ S p = false ∧ p ∉ O.take k := by unfold upto; simp
theorem ordX_at (hk : k < (ordX l b s S).length) : upto S (ordX l b s S) k (ordX l b s S)[k] = false := by
  refine upto_false.2 ⟨(ordX_mem.1 (List.getElem_mem hk)).2.2, fun h => ?_⟩
  obtain ⟨q, hq, e⟩ := List.getElem_of_mem h
  rw [List.length_take] at hq
  rw [List.getElem_take] at e
  have := List.pairwise_iff_getElem.1 (ordX_nodup l b s S) q k (by omega) hk (by omega)
  exact this e
theorem pickU_none (h : PickU l b s (upto S (ordX l b s S) k) l.length a) (ha : a < 0) : (ordX l b s S).length ≤ k := by
  rcases h with ⟨h1, h2⟩ | ⟨m, h1, _⟩
  · refine Nat.le_of_not_lt fun hlt => ?_
    have hm := ordX_mem.1 (List.getElem_mem hlt)
    have := h2 _ hm.1 (ordX_at hlt)
    rw [hm.2.1] at this; cases this
  · omega
theorem pickU_one {m : Nat} (h : PickU l b s (upto S (ordX l b s S) k) l.length (m : Int)) : k < (ordX l b s S).length ∧ (ordX l b s S)[k]! = m ∧ m < l.length := by
  rcases h with ⟨h1, h2⟩ | ⟨m2, h1, h2, h3, h4, h5⟩
  · omega
  · obtain rfl : m = m2 := by omega
    have hmO : m ∈ ordX l b s S := ordX_mem.2 ⟨h2, h4, (upto_false.1 h3).1⟩
    obtain ⟨p, hp, e⟩ := List.getElem_of_mem hmO
    have hkp : k ≤ p := Nat.le_of_not_lt fun hlt => (upto_false.1 h3).2 (by
      rw [← e]
      have : ((ordX l b s S).take k)[p]'(by rw [List.length_take]; omega) = (ordX l b s S)[p] := List.getElem_take
      rw [← this]
      exact List.getElem_mem _)
    have hk : k < (ordX l b s S).length := by omega
    refine ⟨hk, ?_, h2⟩
    rw [getElem!_pos _ k hk]
    by_cases ekp : p = k
    · subst ekp; exact e
    · have hs := List.pairwise_iff_getElem.1 (ordX_sorted l b s S) k p hk hp (by omega)
      rw [e] at hs
      have hm := ordX_mem.1 (List.getElem_mem hk)
      have hne : (ordX l b s S)[k] ≠ m := fun e2 => by rw [e2] at hs; exact ltL_irr _ hs
      exact (ltL_asy _ _ hs (h5 _ hm.1 (ordX_at hk) hm.2.1 hne)).elim
end
section
variable {l : List Pr} {q : Qt} {s : Nat}
theorem take_filter {α : Type} {p : α → Bool} {x : α} (hp : p x = true) : ∀ {L : List α} {n : Nat}, x ∈ L.take n → x ∈ (L.filter p).take n
  | [], n, h => by simp at h
  | y :: L, 0, h => by simp at h
  | y :: L, n + 1, h => by
    rw [List.take_succ_cons, List.mem_cons] at h
    by_cases hy : p y = true
    · rw [List.filter_cons_of_pos hy, List.take_succ_cons, List.mem_cons]
      exact h.imp id fun h => take_filter hp h
    · rw [List.filter_cons_of_neg hy]
      rcases h with rfl | h
      · exact (hy hp).elim
      · have := take_filter hp h
        exact List.mem_of_mem_take (i := n) (by rw [List.take_take, Nat.min_eq_left (by omega)]; exact this)
theorem saved_step {k i : Nat} (h : savedR l q s k i = true) : savedR l q s (k + 1) i = true := by
  show upto _ _ _ i = true
  unfold upto
  rw [h]; rfl
theorem saved_in (hu : Unlike l) {k i : Nat} (hi : i < l.length) (h : inR l i q s ((k + 1 : Nat) : Int) = true) : savedR l q s (k + 1) i = true := by
  show upto _ _ _ i = true
  unfold inR at h
  rw [← first_rank hu hi] at h
  have hm := of_decide_eq_true h
  unfold firstR at hm
  unfold upto
  cases hS : savedR l q s k i with
  | true => rfl
  | false =>
    rw [Bool.false_or]
    exact decide_eq_true (take_filter (p := fun i => !savedR l q s k i) (by rw [hS]; rfl) hm)
/-- The theorem of quotas. -/
theorem inside_saved (hu : Unlike l) {i : Nat} (hi : i < l.length) (h : insR l i q s = true) : savedR l q s 4 i = true := by
  unfold insR at h
  simp only [Bool.or_eq_true] at h
  rcases h with ((h | h) | h) | h
  · exact saved_step (saved_step (saved_step (saved_in hu hi h)))
  · exact saved_step (saved_step (saved_in (k := 1) hu hi h))
  · exact saved_step (saved_in (k := 2) hu hi h)
  · exact saved_in (k := 3) hu hi h
theorem filter_two {α : Type} (p : α → Bool) : ∀ L : List α, (L.filter p).length + (L.filter fun x => !p x).length = L.length
  | [] => rfl
  | x :: L => by
    have := filter_two p L
    cases h : p x with
    | true => rw [List.filter_cons_of_pos h, List.filter_cons_of_neg (by simp [h])]; simp only [List.length_cons]; omega
    | false => rw [List.filter_cons_of_neg (by simp [h]), List.filter_cons_of_pos (by simp [h])]; simp only [List.length_cons]; omega
theorem rest_upto {n k : Nat} {S : Nat → Bool} {O : List Nat} (hn : O.Nodup) (hO : ∀ x ∈ O, x < n ∧ S x = false) : (restR n (upto S O k)).length + min k O.length = (restR n S).length := by
  have e : restR n (upto S O k) = (restR n S).filter fun x => !decide (x ∈ O.take k) := by
    unfold restR
    rw [List.filter_filter]
    congr 1
    funext x
    unfold upto
    rw [Bool.not_or, Bool.and_comm]
  have hp : ((restR n S).filter fun x => decide (x ∈ O.take k)).Perm (O.take k) := by
    rw [List.perm_ext_iff_of_nodup (List.Pairwise.filter _ (rest_nodup n S)) (List.Pairwise.sublist (List.take_sublist _ _) hn)]
    intro x
    rw [List.mem_filter, decide_eq_true_eq, rest_mem]
    exact ⟨fun h => h.2, fun h => ⟨hO x (List.mem_of_mem_take h), h⟩⟩
  have h2 := filter_two (fun x => decide (x ∈ O.take k)) (restR n S)
  rw [hp.length_eq, List.length_take, ← e] at h2
  omega
theorem ordX_all {S : Nat → Bool} {b : Int} (hb : b = 1 ∨ b = 4) : (ordX l b s S).length = (restR l.length S).length := by
  refine List.Perm.length_eq ?_
  rw [List.perm_ext_iff_of_nodup (ordX_nodup l b s S) (rest_nodup _ S)]
  intro x
  rw [ordX_mem, rest_mem]
  have : countsR l[x]! b = true := by unfold countsR; exact decide_eq_true (by omega)
  rw [this]; simp
theorem saved_count (k : Nat) : (restR l.length (savedR l q s (k + 1))).length + min (q.by ((k + 1 : Nat) : Int)).toNat (ordX l ((k + 1 : Nat) : Int) s (savedR l q s k)).length = (restR l.length (savedR l q s k)).length :=
  rest_upto (ordX_nodup _ _ _ _) fun x hx => by
    have := ordX_mem.1 hx
    exact ⟨this.1, this.2.2⟩
theorem rest_none (n : Nat) : (restR n fun _ => false).length = n := by
  have h : (restR n fun _ => false) = List.range n := List.filter_eq_self.2 (fun _ _ => rfl)
  rw [h, List.length_range]
def fewR (n : Int) : Int := min (max n 0) 64
theorem few_at (n : Int) : 0 ≤ fewR n ∧ fewR n ≤ 64 ∧ (fewR n ≤ (n.toNat : Int)) ∧ ((n.toNat : Int) ≤ fewR n ∨ 64 ≤ fewR n) := by unfold fewR; omega
/-- No more are protected than quotas come to, and of the orders that all count by as many as they come to. -/
theorem left_counts (hl : l.length ≤ 30) : ((l.length : Int) - (leftR l q s).length ≤ fewR q.g + fewR q.p + fewR q.w + fewR q.t) ∧ (leftR l q s).length ≤ l.length ∧ (min (l.length : Int) (fewR q.g + fewR q.t) ≤ (l.length : Int) - (leftR l q s).length) := by
  have h0 : (restR l.length (savedR l q s 0)).length = l.length := rest_none _
  have h1 : (restR l.length (savedR l q s 1)).length + min q.g.toNat (ordX l 1 s (savedR l q s 0)).length = (restR l.length (savedR l q s 0)).length := saved_count 0
  have h2 : (restR l.length (savedR l q s 2)).length + min q.p.toNat (ordX l 2 s (savedR l q s 1)).length = (restR l.length (savedR l q s 1)).length := saved_count 1
  have h3 : (restR l.length (savedR l q s 3)).length + min q.w.toNat (ordX l 3 s (savedR l q s 2)).length = (restR l.length (savedR l q s 2)).length := saved_count 2
  have h4 : (restR l.length (savedR l q s 4)).length + min q.t.toNat (ordX l 4 s (savedR l q s 3)).length = (restR l.length (savedR l q s 3)).length := saved_count 3
  rw [ordX_all (Or.inl rfl)] at h1
  rw [ordX_all (Or.inr rfl)] at h4
  have f1 := few_at q.g
  have f2 := few_at q.p
  have f3 := few_at q.w
  have f4 := few_at q.t
  unfold leftR
  generalize fewR q.g = x1 at *
  generalize fewR q.p = x2 at *
  generalize fewR q.w = x3 at *
  generalize fewR q.t = x4 at *
  generalize (restR l.length (savedR l q s 4)).length = r4 at *
  generalize (restR l.length (savedR l q s 3)).length = r3 at *
  generalize (restR l.length (savedR l q s 2)).length = r2 at *
  generalize (restR l.length (savedR l q s 1)).length = r1 at *
  generalize (restR l.length (savedR l q s 0)).length = r0 at *
  generalize (ordX l 2 s (savedR l q s 1)).length = o2 at *
  generalize (ordX l 3 s (savedR l q s 2)).length = o3 at *
  omega
theorem left_none : (leftR l ⟨0, 0, 0, 0⟩ s).length = l.length := by
  have h0 : (restR l.length (savedR l ⟨0, 0, 0, 0⟩ s 0)).length = l.length := rest_none _
  have h1 := saved_count (l := l) (q := ⟨0, 0, 0, 0⟩) (s := s) 0
  have h2 := saved_count (l := l) (q := ⟨0, 0, 0, 0⟩) (s := s) 1
  have h3 := saved_count (l := l) (q := ⟨0, 0, 0, 0⟩) (s := s) 2
  have h4 := saved_count (l := l) (q := ⟨0, 0, 0, 0⟩) (s := s) 3
  have e : ∀ b, (Qt.by ⟨0, 0, 0, 0⟩ b).toNat = 0 := fun b => by unfold Qt.by; split <;> (try split) <;> (try split) <;> rfl
  rw [e, Nat.zero_min, Nat.add_zero] at h1 h2 h3 h4
  unfold leftR
  exact h4.trans (h3.trans (h2.trans (h1.trans h0)))
end
end Go.Proofs.Ythmcggbmeabpmaa.Sh
