/- Of layer 21 (evict), in plain words: who came, of whom one would go, whose end is chosen; who is protected is never chosen; one and the same goes, however peers stand. -/
import Derived.Test.YtklmlgoeiaigkaaShieldMath
import Derived.Test.YtklmlgoeiaigkaaCrowdAll
namespace Go.Proofs.Ytklmlgoeiaigkaa.Ev
set_option maxRecDepth 100000
set_option linter.unusedVariables false
open Dec Words V4 V6 Ad Ci En Sat Ha Pe Stb Gr Mi Ra Sh Cw
def cameR (l : List Pr) : List Pr := l.filter fun x => x.i
def candR (l : List Pr) (q : Qt) (s : Nat) : List Pr := thoseR (cameR l) (leftR (cameR l) q s)
/-- The end of who is picked; of none, the zero end. -/
def exitR (c : List Pr) : Endp := if c.length = 0 then zeroE else (c[bestR c (c.length - 1)]!).e
section
variable {l m : List Pr} {q : Qt} {s i k : Nat} {b : Int} {S T : Nat → Bool}
theorem came_yes (hi : i < l.length) (h : (l[i]!).i = true) : cameR (l.take (i + 1)) = cameR (l.take i) ++ [l[i]!] := by
  unfold cameR
  rw [List.take_succ_eq_append_getElem hi, List.filter_append, ← getElem!_pos l i hi]
  congr 1
  exact List.filter_cons_of_pos h
theorem came_no (hi : i < l.length) (h : (l[i]!).i = false) : cameR (l.take (i + 1)) = cameR (l.take i) := by
  unfold cameR
  rw [List.take_succ_eq_append_getElem hi, List.filter_append, ← getElem!_pos l i hi]
  rw [show List.filter (fun x : Pr => x.i) [l[i]!] = [] from List.filter_cons_of_neg (by rw [h]; simp), List.append_nil]
theorem came_done (h : l.length ≤ i) : cameR (l.take i) = cameR l := by rw [List.take_of_length_le h]
theorem came_le (l : List Pr) : (cameR l).length ≤ l.length := List.length_filter_le _ _
theorem came_take (l : List Pr) (i : Nat) : (cameR (l.take i)).length ≤ l.length := Nat.le_trans (came_le _) (by rw [List.length_take]; omega)
theorem came_ok (h : ∀ x ∈ l, x.ok) : ∀ x ∈ cameR l, x.ok := fun x hx => h x (List.mem_filter.1 hx).1
theorem came_unlike (h : Unlike l) : Unlike (cameR l) := List.Pairwise.filter _ h
theorem came_perm (h : m.Perm l) : (cameR m).Perm (cameR l) := h.filter _
theorem left_lt {i : Nat} (h : i ∈ leftR l q s) : i < l.length := (rest_mem.1 h).1
theorem left_le (l : List Pr) (q : Qt) (s : Nat) : (leftR l q s).length ≤ l.length := rest_le _ _
theorem cand_length (l : List Pr) (q : Qt) (s : Nat) : (candR l q s).length = (leftR (cameR l) q s).length := those_length _ _
theorem cand_le (l : List Pr) (q : Qt) (s : Nat) : (candR l q s).length ≤ l.length := by
  rw [cand_length]; exact Nat.le_trans (left_le _ _ _) (came_le _)
theorem cand_ok (h : ∀ x ∈ l, x.ok) (q : Qt) (s : Nat) : ∀ x ∈ candR l q s, x.ok := those_ok (came_ok h) fun i hi => left_lt hi
theorem those_yes (h : S i = true) : thoseR l (restR (i + 1) S) = thoseR l (restR i S) := by rw [rest_yes h]
theorem those_no (h : S i = false) : thoseR l (restR (i + 1) S) = thoseR l (restR i S) ++ [l[i]!] := by
  rw [rest_no h]; unfold thoseR; rw [List.map_append]; rfl
/-! One and the same goes, however they stand. -/
theorem perm_at (hp : m.Perm l) {i : Nat} (hi : i < l.length) : ∃ j, j < m.length ∧ m[j]! = l[i]! := by
  have h : l[i]! ∈ m := hp.mem_iff.2 (by rw [getElem!_pos l i hi]; exact List.getElem_mem _)
  obtain ⟨j, hj, e⟩ := List.getElem_of_mem h
  exact ⟨j, hj, by rw [getElem!_pos m j hj]; exact e⟩
/-- Two sets of places, of the same peers. -/
def Ag (l m : List Pr) (S T : Nat → Bool) : Prop := ∀ i j, i < l.length → j < m.length → l[i]! = m[j]! → S i = T j
theorem sortedX (h : Unlike l) (b : Int) (s : Nat) (S : Nat → Bool) : ((ordX l b s S).map fun i : Nat => l[i]!).Pairwise (ltP b s) := by
  rw [List.pairwise_map]
  have hs := ordX_sorted l b s S
  rw [List.pairwise_iff_getElem] at hs ⊢
  intro i j hi hj hij
  have mi := ordX_mem.1 (List.getElem_mem hi)
  have mj := ordX_mem.1 (List.getElem_mem hj)
  exact ltP_of h mi.1 mj.1 (counts_by mi.2.1) (hs i j hi hj hij)
theorem mapX_mem {x : Pr} : x ∈ ((ordX l b s S).map fun i : Nat => l[i]!) ↔ ∃ i, i < l.length ∧ countsR l[i]! b = true ∧ S i = false ∧ l[i]! = x := by
  simp only [List.mem_map, ordX_mem]
  constructor
  · rintro ⟨i, ⟨h1, h2, h3⟩, h4⟩; exact ⟨i, h1, h2, h3, h4⟩
  · rintro ⟨i, h1, h2, h3, h4⟩; exact ⟨i, ⟨h1, h2, h3⟩, h4⟩
theorem ordX_one (hp : m.Perm l) (hl : Unlike l) (hm : Unlike m) (h : Ag l m S T) : ((ordX l b s S).map fun i : Nat => l[i]!) = ((ordX m b s T).map fun i : Nat => m[i]!) := by
  refine sorted_one (ltP_irr b s) (ltP_asy b s) (sortedX hl b s S) (sortedX hm b s T) fun x => ?_
  rw [mapX_mem, mapX_mem]
  constructor
  · rintro ⟨i, h1, h2, h3, rfl⟩
    obtain ⟨j, hj, e⟩ := perm_at hp h1
    exact ⟨j, hj, by rw [e]; exact h2, by rw [← h i j h1 hj e.symm]; exact h3, e⟩
  · rintro ⟨j, h1, h2, h3, rfl⟩
    obtain ⟨i, hi, e⟩ := perm_at hp.symm h1
    exact ⟨i, hi, by rw [e]; exact h2, by rw [h i j hi h1 e]; exact h3, e⟩
theorem take_at (hl : Unlike l) {k i : Nat} (hi : i < l.length) : (i ∈ (ordX l b s S).take k) ↔ l[i]! ∈ ((ordX l b s S).map fun i : Nat => l[i]!).take k := by
  rw [← List.map_take, List.mem_map]
  constructor
  · intro h; exact ⟨i, h, rfl⟩
  · rintro ⟨j, hj, e⟩
    have hjl := (ordX_mem.1 (List.mem_of_mem_take hj)).1
    have := unlike_at hl hjl hi (by rw [e])
    rw [← this]; exact hj
theorem upto_one (hp : m.Perm l) (hl : Unlike l) (hm : Unlike m) (h : Ag l m S T) (k : Nat) : Ag l m (upto S (ordX l b s S) k) (upto T (ordX m b s T) k) := by
  intro i j hi hj e
  unfold upto
  rw [h i j hi hj e]
  congr 1
  rw [decide_eq_decide, take_at hl hi, take_at hm hj, ordX_one hp hl hm h, e]
theorem saved_one (hp : m.Perm l) (hl : Unlike l) (hm : Unlike m) (q : Qt) (s : Nat) : ∀ k, Ag l m (savedR l q s k) (savedR m q s k)
  | 0 => fun i j _ _ _ => rfl
  | k + 1 => upto_one hp hl hm (saved_one hp hl hm q s k) _
theorem unlike_nodup (h : Unlike l) : l.Nodup := List.Pairwise.imp (fun {x y} hn e => hn (by rw [e])) h
theorem perm_unlike (hp : m.Perm l) (h : Unlike l) : Unlike m := (hp.pairwise_iff (fun h e => h e.symm)).2 h
theorem those_unlike (h : Unlike l) (S : Nat → Bool) : Unlike (thoseR l (restR l.length S)) := by
  show List.Pairwise _ ((restR l.length S).map fun i => l[i]!)
  rw [List.pairwise_map]
  refine List.Pairwise.imp_of_mem ?_ (rest_sorted l.length S)
  intro i j hi hj hij e
  have := unlike_at h (rest_mem.1 hi).1 (rest_mem.1 hj).1 e
  omega
theorem those_mem {x : Pr} : x ∈ thoseR l (restR l.length S) ↔ ∃ i, i < l.length ∧ S i = false ∧ l[i]! = x := by
  unfold thoseR
  simp only [List.mem_map, rest_mem]
  constructor
  · rintro ⟨i, ⟨h1, h2⟩, h3⟩; exact ⟨i, h1, h2, h3⟩
  · rintro ⟨i, h1, h2, h3⟩; exact ⟨i, ⟨h1, h2⟩, h3⟩
theorem those_perm (hp : m.Perm l) (hl : Unlike l) (hm : Unlike m) (h : Ag l m S T) : (thoseR m (restR m.length T)).Perm (thoseR l (restR l.length S)) := by
  rw [List.perm_ext_iff_of_nodup (unlike_nodup (those_unlike hm T)) (unlike_nodup (those_unlike hl S))]
  intro x
  rw [those_mem, those_mem]
  constructor
  · rintro ⟨j, h1, h2, rfl⟩
    obtain ⟨i, hi, e⟩ := perm_at hp.symm h1
    exact ⟨i, hi, by rw [h i j hi h1 e]; exact h2, e⟩
  · rintro ⟨i, h1, h2, rfl⟩
    obtain ⟨j, hj, e⟩ := perm_at hp h1
    exact ⟨j, hj, by rw [← h i j h1 hj e.symm]; exact h2, e⟩
theorem cand_perm (hp : m.Perm l) (hl : Unlike l) (q : Qt) (s : Nat) : (candR m q s).Perm (candR l q s) :=
  those_perm (came_perm hp) (came_unlike hl) (came_unlike (perm_unlike hp hl)) (saved_one (came_perm hp) (came_unlike hl) (came_unlike (perm_unlike hp hl)) q s 4)
theorem cand_unlike (h : Unlike l) (q : Qt) (s : Nat) : Unlike (candR l q s) := those_unlike (came_unlike h) _
theorem end_perm (hp : m.Perm l) (hu : Unlike l) : exitR m = exitR l := by
  unfold exitR
  rw [hp.length_eq]
  by_cases h0 : l.length = 0
  · rw [if_pos h0, if_pos h0]
  · rw [if_neg h0, if_neg h0]
    have := pick_turned hp hu (by omega)
    rw [hp.length_eq] at this
    rw [this]
/-- One and the same goes. -/
theorem end_one (hp : m.Perm l) (hu : Unlike l) (q : Qt) (s : Nat) : exitR (candR m q s) = exitR (candR l q s) := end_perm (cand_perm hp hu q s) (cand_unlike hu q s)
theorem length_one (hp : m.Perm l) (hu : Unlike l) (q : Qt) (s : Nat) : (candR m q s).length = (candR l q s).length := (cand_perm hp hu q s).length_eq
/-- Two neighbours, exchanged. -/
def swR2 (l : List Pr) (i : Nat) : List Pr := (l.set i l[i + 1]!).set (i + 1) l[i]!
theorem sw_length (l : List Pr) (i : Nat) : (swR2 l i).length = l.length := by unfold swR2; simp
theorem sw_perm : ∀ (l : List Pr) (i : Nat), i + 1 < l.length → (swR2 l i).Perm l
  | x :: y :: l, 0, _ => List.Perm.swap _ _ _
  | [x], 0, h => by simp at h
  | [], i, h => by simp at h
  | x :: l, i + 1, h => by
    have e : swR2 (x :: l) (i + 1) = x :: swR2 l i := rfl
    rw [e]
    exact (sw_perm l i (by simp at h; omega)).cons x
/-! Who is protected is never chosen. -/
def fndR (c : List Pr) (E : Endp) (i : Nat) : Bool := (List.range i).any fun j => sameE (c[j]!).e E
theorem fnd_zero (c : List Pr) (E : Endp) : fndR c E 0 = false := rfl
theorem fnd_next (c : List Pr) (E : Endp) (i : Nat) : fndR c E (i + 1) = (fndR c E i || sameE (c[i]!).e E) := by
  unfold fndR
  rw [List.range_succ, List.any_append]
  simp
theorem best_at {c : List Pr} (h : 0 < c.length) : bestR c (c.length - 1) < c.length := by
  have := best_le c (c.length - 1)
  omega
theorem end_at (h : 0 < (candR l q s).length) : ∃ i, i < (cameR l).length ∧ savedR (cameR l) q s 4 i = false ∧ (cameR l)[i]!.e = exitR (candR l q s) := by
  have hb := best_at h
  have hb2 : bestR (candR l q s) ((candR l q s).length - 1) < (restR (cameR l).length (savedR (cameR l) q s 4)).length := by
    have := cand_length l q s
    unfold leftR at this
    omega
  have e1 := those_at (l := cameR l) hb2
  have e2 := rest_at hb2
  refine ⟨_, e2.1, e2.2, ?_⟩
  unfold exitR
  rw [if_neg (by omega), ← e1]
  rfl
theorem never (hu : Unlike l) {i : Nat} (hi : i < (cameR l).length) (hc : 0 < (candR l q s).length) (he : (cameR l)[i]!.e = exitR (candR l q s)) : savedR (cameR l) q s 4 i = false ∧ insideR (cameR l) i q s = false := by
  obtain ⟨j, h1, h2, h3⟩ := end_at hc
  obtain rfl := unlike_at (came_unlike hu) hi h1 (he.trans h3.symm)
  refine ⟨h2, ?_⟩
  unfold insideR
  rw [decide_eq_true (by omega), Int.toNat_natCast, Bool.true_and]
  cases h : insR (cameR l) i q s with
  | false => rfl
  | true =>
    have := inside_saved (came_unlike hu) hi h
    rw [h2] at this; cases this
theorem fnd_done (hc : 0 < (candR l q s).length) : fndR (cameR l) (exitR (candR l q s)) (cameR l).length = true := by
  obtain ⟨j, h1, h2, h3⟩ := end_at hc
  unfold fndR
  rw [List.any_eq_true]
  exact ⟨j, List.mem_range.2 h1, (sameE_iff _ _).2 h3⟩
end
end Go.Proofs.Ytklmlgoeiaigkaa.Ev
