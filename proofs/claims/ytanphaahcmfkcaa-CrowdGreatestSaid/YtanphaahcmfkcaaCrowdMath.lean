/- Of layer 20 (crowd), in plain words: who is younger, how many are of a group, who is picked; a list of groups with their numbers. -/
import Derived.Test.YtanphaahcmfkcaaRankTurns
namespace Go.Proofs.Ytanphaahcmfkcaa.Cw
set_option maxRecDepth 100000
set_option linter.unusedVariables false
set_option linter.unusedSimpArgs false
open Dec Words V4 V6 Ad Ci En Sat Ha Pe Stb Gr Mi Ra
/-- Compared by a number, then by what is left. -/
def lexC {α : Type} (k : α → Int) (c : α → α → Int) (x y : α) : Int := if k x = k y then c x y else if k x < k y then -1 else 1
section
variable {α : Type} {k : α → Int} {c : α → α → Int}
theorem lex_flip (hf : ∀ x y, c x y = -c y x) (x y : α) : lexC k c x y = -lexC k c y x := by
  unfold lexC
  by_cases h : k x = k y
  · rw [if_pos h, if_pos h.symm, hf]
  · rw [if_neg h, if_neg (show ¬ k y = k x by omega)]
    by_cases h2 : k x < k y
    · rw [if_pos h2, if_neg (by omega)]
    · rw [if_neg h2, if_pos (by omega)]; rfl
theorem lex_zero (x y : α) : lexC k c x y = 0 ↔ k x = k y ∧ c x y = 0 := by
  unfold lexC
  by_cases h : k x = k y
  · rw [if_pos h]; exact ⟨fun e => ⟨h, e⟩, fun e => e.2⟩
  · rw [if_neg h]
    constructor
    · intro e; split at e <;> omega
    · intro e; exact (h e.1).elim
theorem lex_le (hl : ∀ x y z, c x y ≤ 0 → c y z ≤ 0 → c x z ≤ 0) {x y z : α} (h1 : lexC k c x y ≤ 0) (h2 : lexC k c y z ≤ 0) : lexC k c x z ≤ 0 := by
  unfold lexC at *
  by_cases a : k x = k y
  · rw [if_pos a] at h1
    by_cases b : k y = k z
    · rw [if_pos b] at h2
      rw [if_pos (a.trans b)]; exact hl _ _ _ h1 h2
    · rw [if_neg b] at h2
      rw [if_neg (by omega), a]; exact h2
  · rw [if_neg a] at h1
    have a2 : k x < k y := by
      by_cases q : k x < k y
      · exact q
      · rw [if_neg q] at h1; omega
    by_cases b : k y = k z
    · rw [if_neg (by omega), if_pos (by omega)]; omega
    · rw [if_neg b] at h2
      have b2 : k y < k z := by
        by_cases q : k y < k z
        · exact q
        · rw [if_neg q] at h2; omega
      rw [if_neg (by omega), if_pos (by omega)]; omega
theorem lex_key {x y : α} (h : lexC k c x y ≤ 0) : k x ≤ k y := by
  unfold lexC at h
  by_cases a : k x = k y
  · omega
  · rw [if_neg a] at h
    by_cases q : k x < k y
    · omega
    · rw [if_neg q] at h; omega
theorem lex_pos (x y : α) : 0 < lexC k c x y ↔ k y < k x ∨ (k x = k y ∧ 0 < c x y) := by
  unfold lexC
  by_cases a : k x = k y
  · rw [if_pos a]
    constructor
    · intro h; exact Or.inr ⟨a, h⟩
    · rintro (h | h)
      · omega
      · exact h.2
  · rw [if_neg a]
    by_cases q : k x < k y
    · rw [if_pos q]; omega
    · rw [if_neg q]; omega
end
/-- Who came later, compared by Since and then by the end. -/
def cmpY : Pr → Pr → Int := lexC (fun x => x.t) (fun x y => cmpE x.e y.e)
def youngR (x y : Pr) : Bool := decide (0 < cmpY x y)
theorem cmpY_flip (x y : Pr) : cmpY x y = -cmpY y x := lex_flip (fun _ _ => cmpE_flip _ _) x y
theorem cmpY_le {x y z : Pr} (h1 : cmpY x y ≤ 0) (h2 : cmpY y z ≤ 0) : cmpY x z ≤ 0 := lex_le (k := fun x : Pr => x.t) (c := fun x y => cmpE x.e y.e) (fun _ _ _ a b => cmpE_le a b) h1 h2
theorem cmpY_zero {x y : Pr} (h : cmpY x y = 0) : x.e = y.e := (cmpE_zero _ _).1 ((lex_zero x y).1 h).2
theorem cmpY_or (x y : Pr) : cmpY x y = if cmpI x.t y.t = 0 then cmpE x.e y.e else cmpI x.t y.t := by
  unfold cmpY lexC
  by_cases h : x.t = y.t
  · rw [if_pos h, if_pos ((cmpI_zero _ _).2 h)]
  · rw [if_neg h, if_neg (fun e => h ((cmpI_zero _ _).1 e))]
    unfold cmpI
    by_cases q : x.t < y.t
    · rw [if_pos q, if_pos q]
    · rw [if_neg q, if_neg q, if_pos (by omega)]
theorem young_same {x y : Pr} (h : x.t = y.t) : youngR x y = decide (0 < cmpE x.e y.e) := by
  unfold youngR cmpY lexC
  rw [if_pos h]
theorem young_other {x y : Pr} (h : x.t ≠ y.t) : youngR x y = decide (y.t < x.t) := by
  unfold youngR
  rw [decide_eq_decide]
  have h2 := lex_pos (k := fun x : Pr => x.t) (c := fun x y => cmpE x.e y.e) x y
  constructor
  · intro h3
    rcases h2.1 h3 with h4 | h4
    · exact h4
    · exact (h h4.1).elim
  · intro h3; exact h2.2 (Or.inl h3)
/-- A peer's group. -/
def gR (x : Pr) : Net := groupN x.e.a
theorem gR_ok {x : Pr} (h : x.ok) : (gR x).ok := group_ok h.1.1
/-- How many are of a group. -/
def cntR (l : List Pr) (n : Net) : Nat := l.countP fun x => sameN (gR x) n
theorem cnt_le (l : List Pr) (n : Net) : cntR l n ≤ l.length := List.countP_le_length
theorem cnt_perm {l m : List Pr} (h : l.Perm m) (n : Net) : cntR l n = cntR m n := h.countP_eq _
theorem cnt_next {l : List Pr} {i : Nat} (hi : i < l.length) (n : Net) : cntR (l.take (i + 1)) n = cntR (l.take i) n + (if sameN (gR l[i]!) n then 1 else 0) := by
  unfold cntR
  rw [List.take_succ_eq_append_getElem hi, List.countP_append, List.countP_singleton, getElem!_pos l i hi]
theorem cnt_done {l : List Pr} (n : Net) : cntR (l.take l.length) n = cntR l n := by rw [List.take_of_length_le (Nat.le_refl _)]
theorem cnt_pos {l : List Pr} {i : Nat} (hi : i < l.length) : 0 < cntR l (gR l[i]!) := by
  unfold cntR
  rw [List.countP_pos_iff]
  exact ⟨l[i]!, by rw [getElem!_pos l i hi]; exact List.getElem_mem _, (sameN_iff _ _).2 rfl⟩
def crowdR (l : List Pr) (i : Int) : Int := if 0 ≤ i ∧ i < l.length then (cntR l (gR l[i.toNat]!) : Int) else 0
theorem crowd_at {l : List Pr} {i : Nat} (hi : i < l.length) : crowdR l (i : Int) = (cntR l (gR l[i]!) : Int) := by
  unfold crowdR
  rw [if_pos (by omega), Int.toNat_natCast]
theorem crowd_off {l : List Pr} {i : Int} (h : i < 0 ∨ (l.length : Int) ≤ i) : crowdR l i = 0 := by
  unfold crowdR
  rw [if_neg (by omega)]
/-- Who has to go first: of the greater crowd, then the younger. -/
def cmpB (l : List Pr) : Pr → Pr → Int := lexC (fun x => (cntR l (gR x) : Int)) cmpY
theorem cmpB_flip (l : List Pr) (x y : Pr) : cmpB l x y = -cmpB l y x := lex_flip cmpY_flip x y
theorem cmpB_le {l : List Pr} {x y z : Pr} (h1 : cmpB l x y ≤ 0) (h2 : cmpB l y z ≤ 0) : cmpB l x z ≤ 0 := lex_le (k := fun x => (cntR l (gR x) : Int)) (c := cmpY) (fun _ _ _ a b => cmpY_le a b) h1 h2
def beatsR (l : List Pr) (x y : Pr) : Bool := decide (0 < cmpB l x y)
theorem beats_is (l : List Pr) (x y : Pr) : beatsR l x y = (decide (cntR l (gR y) < cntR l (gR x)) || (decide (cntR l (gR x) = cntR l (gR y)) && youngR x y)) := by
  unfold beatsR youngR cmpB
  have h := lex_pos (k := fun x => (cntR l (gR x) : Int)) (c := cmpY) x y
  rw [Bool.eq_iff_iff]
  simp only [decide_eq_true_eq, Bool.or_eq_true, Bool.and_eq_true]
  constructor
  · intro h2
    rcases h.1 h2 with h3 | h3
    · exact Or.inl (by have : (cntR l (gR y) : Int) < cntR l (gR x) := h3; omega)
    · exact Or.inr ⟨by have : (cntR l (gR x) : Int) = cntR l (gR y) := h3.1; omega, h3.2⟩
  · rintro (h2 | h2)
    · exact h.2 (Or.inl (by show (cntR l (gR y) : Int) < cntR l (gR x); omega))
    · exact h.2 (Or.inr ⟨by show (cntR l (gR x) : Int) = cntR l (gR y); omega, h2.2⟩)
/-- Who is picked of the first i + 1. -/
def bestR (l : List Pr) : Nat → Nat
  | 0 => 0
  | i + 1 => if beatsR l l[i + 1]! l[bestR l i]! then i + 1 else bestR l i
theorem best_le (l : List Pr) : ∀ i, bestR l i ≤ i
  | 0 => Nat.le_refl _
  | i + 1 => by
    unfold bestR
    split
    · omega
    · have := best_le l i; omega
theorem best_max (l : List Pr) : ∀ i k, k ≤ i → cmpB l l[k]! l[bestR l i]! ≤ 0
  | 0, k, h => by
    obtain rfl : k = 0 := by omega
    have h1 := cmpB_flip l l[0]! l[0]!
    show cmpB l l[0]! l[0]! ≤ 0
    omega
  | i + 1, k, h => by
    have hs := cmpB_flip l l[i + 1]! l[i + 1]!
    unfold bestR
    by_cases hb : beatsR l l[i + 1]! l[bestR l i]! = true
    · rw [if_pos hb]
      have hb2 : 0 < cmpB l l[i + 1]! l[bestR l i]! := of_decide_eq_true hb
      by_cases e : k = i + 1
      · subst e; omega
      · have h1 := best_max l i k (by omega)
        have h2 := cmpB_flip l l[bestR l i]! l[i + 1]!
        exact cmpB_le h1 (by omega)
    · rw [if_neg hb]
      have hb2 : ¬ 0 < cmpB l l[i + 1]! l[bestR l i]! := fun h => hb (decide_eq_true h)
      by_cases e : k = i + 1
      · subst e; omega
      · exact best_max l i k (by omega)
theorem best_first (l : List Pr) : ∀ i k, k < bestR l i → beatsR l l[bestR l i]! l[k]! = true
  | 0, k, h => by simp [bestR] at h
  | i + 1, k, h => by
    unfold bestR at h ⊢
    by_cases hb : beatsR l l[i + 1]! l[bestR l i]! = true
    · rw [if_pos hb] at h ⊢
      have hb2 : 0 < cmpB l l[i + 1]! l[bestR l i]! := of_decide_eq_true hb
      have h1 := best_max l i k (by omega)
      refine decide_eq_true ?_
      by_cases c : 0 < cmpB l l[i + 1]! l[k]!
      · exact c
      · have := cmpB_le (x := l[i + 1]!) (y := l[k]!) (z := l[bestR l i]!) (by omega) h1
        omega
    · rw [if_neg hb] at h ⊢
      exact best_first l i k h
def pickR (l : List Pr) : Int := if l.length = 0 then -1 else (bestR l (l.length - 1) : Int)
/-- Of the first i: who is picked, and how great his crowd is. -/
def pickI (l : List Pr) (i : Nat) : Int := if i = 0 then -1 else (bestR l (i - 1) : Int)
def mostI (l : List Pr) (i : Nat) : Nat := if i = 0 then 0 else cntR l (gR l[bestR l (i - 1)]!)
theorem pickI_zero (l : List Pr) : pickI l 0 = -1 := rfl
theorem pickI_done (l : List Pr) : pickI l l.length = pickR l := rfl
theorem pickI_succ (l : List Pr) (i : Nat) : pickI l (i + 1) = (bestR l i : Int) := rfl
theorem mostI_succ (l : List Pr) (i : Nat) : mostI l (i + 1) = cntR l (gR l[bestR l i]!) := rfl
/-- A round: a greater crowd. -/
theorem round_more {l : List Pr} {i : Nat} (hi : i < l.length) (h : mostI l i < cntR l (gR l[i]!)) : pickI l (i + 1) = (i : Int) ∧ mostI l (i + 1) = cntR l (gR l[i]!) := by
  have e : bestR l i = i := by
    cases i with
    | zero => rfl
    | succ j =>
      unfold bestR
      rw [if_pos]
      rw [beats_is, decide_eq_true (show cntR l (gR l[bestR l j]!) < cntR l (gR l[j + 1]!) from h), Bool.true_or]
  rw [pickI_succ, mostI_succ, e]
  exact ⟨rfl, rfl⟩
/-- One as great: the number picked is one of the list's. -/
theorem round_same {l : List Pr} {i : Nat} (hi : i < l.length) (h : ¬ mostI l i < cntR l (gR l[i]!)) : ∃ p : Nat, pickI l i = (p : Int) ∧ p < l.length ∧
    ((cntR l (gR l[i]!) = mostI l i ∧ youngR l[i]! l[p]! = true) → pickI l (i + 1) = (i : Int) ∧ mostI l (i + 1) = cntR l (gR l[i]!)) ∧
    (¬ (cntR l (gR l[i]!) = mostI l i ∧ youngR l[i]! l[p]! = true) → pickI l (i + 1) = (p : Int) ∧ mostI l (i + 1) = mostI l i) := by
  cases i with
  | zero => have := cnt_pos hi; exact (h this).elim
  | succ j =>
    have hm : mostI l (j + 1) = cntR l (gR l[bestR l j]!) := mostI_succ l j
    rw [hm] at h ⊢
    have hb := best_le l j
    refine ⟨bestR l j, pickI_succ l j, by omega, ?_, ?_⟩
    · rintro ⟨h1, h2⟩
      have e : bestR l (j + 1) = j + 1 := by
        show (if beatsR l l[j + 1]! l[bestR l j]! then j + 1 else bestR l j) = j + 1
        rw [if_pos]
        rw [beats_is, decide_eq_true h1, h2, Bool.and_true, Bool.or_true]
      rw [pickI_succ, mostI_succ, e]
      exact ⟨rfl, rfl⟩
    · intro hn
      have e : bestR l (j + 1) = bestR l j := by
        show (if beatsR l l[j + 1]! l[bestR l j]! then j + 1 else bestR l j) = bestR l j
        rw [if_neg]
        rw [beats_is, decide_eq_false h, Bool.false_or, Bool.and_eq_true, decide_eq_true_eq]
        exact hn
      rw [pickI_succ, mostI_succ, e]
      exact ⟨rfl, rfl⟩
/-- The document's: is one better than the first k? -/
def bestB (l : List Pr) (i k : Nat) : Bool := decide (∀ p, p < k → beatsR l l[p]! l[i]! = false)
theorem bestB_zero (l : List Pr) (i : Nat) : bestB l i 0 = true := decide_eq_true fun p h => by omega
theorem bestB_next (l : List Pr) (i k : Nat) : bestB l i (k + 1) = (bestB l i k && !beatsR l l[k]! l[i]!) := by
  unfold bestB
  rw [Bool.eq_iff_iff, Bool.and_eq_true, decide_eq_true_eq, decide_eq_true_eq, Bool.not_eq_true']
  constructor
  · intro h; exact ⟨fun p hp => h p (by omega), h k (by omega)⟩
  · rintro ⟨h1, h2⟩ p hp
    by_cases e : p = k
    · subst e; exact h2
    · exact h1 p (by omega)
theorem not_beats (l : List Pr) (x y : Pr) : (!beatsR l x y) = (decide (cntR l (gR x) ≤ cntR l (gR y)) && (decide (cntR l (gR x) < cntR l (gR y)) || !youngR x y)) := by
  rw [beats_is]
  rcases Nat.lt_trichotomy (cntR l (gR x)) (cntR l (gR y)) with h | h | h
  · rw [decide_eq_false (show ¬ cntR l (gR y) < cntR l (gR x) by omega), decide_eq_false (show ¬ cntR l (gR x) = cntR l (gR y) by omega), decide_eq_true (Nat.le_of_lt h), decide_eq_true h]; rfl
  · rw [decide_eq_false (show ¬ cntR l (gR y) < cntR l (gR x) by omega), decide_eq_true h, decide_eq_true (Nat.le_of_eq h), decide_eq_false (show ¬ cntR l (gR x) < cntR l (gR y) by omega)]; simp
  · rw [decide_eq_true h, decide_eq_false (show ¬ cntR l (gR x) ≤ cntR l (gR y) by omega)]; rfl
theorem bestB_pick {l : List Pr} (h0 : 0 < l.length) {i : Nat} (hi : i < l.length) : bestB l i l.length = true → i ≤ bestR l (l.length - 1) → i = bestR l (l.length - 1) := by
  intro h hle
  by_cases e : i = bestR l (l.length - 1)
  · exact e
  · have h1 := best_first l (l.length - 1) i (by omega)
    have h2 := best_le l (l.length - 1)
    have h3 := of_decide_eq_true h (bestR l (l.length - 1)) (by omega)
    rw [h1] at h3; cases h3
theorem bestB_done {l : List Pr} (h0 : 0 < l.length) : bestB l (bestR l (l.length - 1)) l.length = true := by
  refine decide_eq_true fun p hp => ?_
  have h := best_max l (l.length - 1) p (by omega)
  exact decide_eq_false (by omega)
/-- No one's crowd is greater than that of who is picked, and of its own group nobody is younger. -/
theorem pick_most {l : List Pr} {i : Nat} (hi : i < l.length) : cntR l (gR l[i]!) ≤ cntR l (gR l[bestR l (l.length - 1)]!) := by
  have h := lex_key (best_max l (l.length - 1) i (by omega))
  have h2 : (cntR l (gR l[i]!) : Int) ≤ cntR l (gR l[bestR l (l.length - 1)]!) := h
  omega
theorem pick_young {l : List Pr} {i : Nat} (hi : i < l.length) (h : sameN (gR l[i]!) (gR l[bestR l (l.length - 1)]!) = true) : youngR l[i]! l[bestR l (l.length - 1)]! = false := by
  have e := (sameN_iff _ _).1 h
  have h1 := best_max l (l.length - 1) i (by omega)
  unfold cmpB lexC at h1
  rw [if_pos (by show (cntR l (gR l[i]!) : Int) = _; rw [e])] at h1
  exact decide_eq_false (by omega)
theorem cmpB_perm {l m : List Pr} (h : l.Perm m) (x y : Pr) : cmpB l x y = cmpB m x y := by
  have e : (fun x => (cntR l (gR x) : Int)) = fun x => (cntR m (gR x) : Int) := funext fun x => by rw [cnt_perm h]
  unfold cmpB
  rw [e]
/-- One and the same is picked, however they are turned. -/
theorem pick_turned {l m : List Pr} (hp : m.Perm l) (hu : Unlike l) (h0 : 0 < l.length) : m[bestR m (m.length - 1)]! = l[bestR l (l.length - 1)]! := by
  have hl := hp.length_eq
  have b1 := best_le l (l.length - 1)
  have b2 := best_le m (m.length - 1)
  obtain ⟨v, hv⟩ : ∃ v, v = bestR l (l.length - 1) := ⟨_, rfl⟩
  obtain ⟨q, hq⟩ : ∃ q, q = bestR m (m.length - 1) := ⟨_, rfl⟩
  rw [← hv] at b1
  rw [← hq] at b2
  have hv1 : v < l.length := by omega
  have hq1 : q < m.length := by omega
  have m1 : m[q]! ∈ l := hp.mem_iff.1 (by rw [getElem!_pos m q hq1]; exact List.getElem_mem _)
  have m2 : l[v]! ∈ m := hp.mem_iff.2 (by rw [getElem!_pos l v hv1]; exact List.getElem_mem _)
  obtain ⟨j, hj, ej⟩ := List.getElem_of_mem m1
  obtain ⟨p, hpl, ep⟩ := List.getElem_of_mem m2
  have g1 := best_max l (l.length - 1) j (by omega)
  have g2 := best_max m (m.length - 1) p (by omega)
  rw [← hv, getElem!_pos l j hj, ej] at g1
  rw [← hq, getElem!_pos m p hpl, ep, cmpB_perm hp] at g2
  have g3 := cmpB_flip l l[v]! m[q]!
  have g4 : cmpB l m[q]! l[v]! = 0 := by omega
  have g5 := cmpY_zero ((lex_zero _ _).1 g4).2
  rw [← hv, ← hq]
  rw [← ej, ← getElem!_pos l j hj] at g5 ⊢
  rw [unlike_at hu hj hv1 g5]
/-- Groups with their numbers, as they were met first. -/
abbrev Gs := List (Net × Nat)
def ixG (E : Gs) (n : Net) : Nat := E.findIdx fun p => sameN p.1 n
def valG (E : Gs) (n : Net) : Nat := if h : ixG E n < E.length then E[ixG E n].2 else 0
def openG (E : Gs) (n : Net) : Gs := if ixG E n < E.length then E else E ++ [(n, 0)]
def putG (E : Gs) (n : Net) (c : Nat) : Gs := (openG E n).set (ixG E n) (n, c)
theorem ixG_le (E : Gs) (n : Net) : ixG E n ≤ E.length := List.findIdx_le_length
theorem ixG_at {E : Gs} {n : Net} (h : ixG E n < E.length) : E[ixG E n].1 = n := by
  have := List.findIdx_getElem (xs := E) (p := fun p : Net × Nat => sameN p.1 n) (w := h)
  exact (sameN_iff E[ixG E n].1 n).1 this
theorem ixG_cons (p : Net × Nat) (E : Gs) (n : Net) : ixG (p :: E) n = if sameN p.1 n then 0 else ixG E n + 1 := by
  unfold ixG
  rw [List.findIdx_cons]
  cases sameN p.1 n <;> rfl
theorem valG_cons (p : Net × Nat) (E : Gs) (n : Net) : valG (p :: E) n = if sameN p.1 n then p.2 else valG E n := by
  unfold valG
  have e := ixG_cons p E n
  by_cases h : sameN p.1 n = true
  · rw [if_pos h] at e ⊢
    rw [dif_pos (by rw [e]; simp)]
    simp only [e, List.getElem_cons_zero]
  · rw [if_neg h] at e ⊢
    by_cases h2 : ixG E n < E.length
    · rw [dif_pos (by rw [e]; simp; omega), dif_pos h2]
      simp only [e, List.getElem_cons_succ]
    · rw [dif_neg (by rw [e]; simp; omega), dif_neg h2]
theorem valG_nil (n : Net) : valG [] n = 0 := rfl
theorem openG_cons (p : Net × Nat) (E : Gs) (n : Net) : openG (p :: E) n = if sameN p.1 n then p :: E else p :: openG E n := by
  unfold openG
  have e := ixG_cons p E n
  by_cases h : sameN p.1 n = true
  · rw [if_pos h] at e ⊢
    rw [if_pos (by rw [e]; simp)]
  · rw [if_neg h] at e ⊢
    by_cases h2 : ixG E n < E.length
    · rw [if_pos (by rw [e]; simp; omega), if_pos h2]
    · rw [if_neg (by rw [e]; simp; omega), if_neg h2]; rfl
theorem putG_cons (p : Net × Nat) (E : Gs) (n : Net) (c : Nat) : putG (p :: E) n c = if sameN p.1 n then (n, c) :: E else p :: putG E n c := by
  unfold putG
  rw [openG_cons, ixG_cons]
  by_cases h : sameN p.1 n = true
  · rw [if_pos h, if_pos h, if_pos h]; rfl
  · rw [if_neg h, if_neg h, if_neg h]; rfl
theorem valG_open : ∀ (E : Gs) (n m : Net), valG (openG E n) m = valG E m
  | [], n, m => by
    show valG [(n, 0)] m = 0
    rw [valG_cons]; split <;> rfl
  | p :: E, n, m => by
    rw [openG_cons]
    split
    · rfl
    · rw [valG_cons, valG_cons, valG_open E n m]
theorem ixG_open (E : Gs) (n : Net) : ixG E n < (openG E n).length := by
  unfold openG
  split
  · assumption
  · have := ixG_le E n; simp; omega
theorem ixG_same : ∀ (E : Gs) (n : Net), ixG (openG E n) n = ixG E n
  | [], n => by
    show ixG [(n, 0)] n = ixG [] n
    rw [ixG_cons, if_pos ((sameN_iff _ _).2 rfl)]; rfl
  | p :: E, n => by
    rw [openG_cons]
    by_cases h : sameN p.1 n = true
    · rw [if_pos h]
    · rw [if_neg h, ixG_cons, ixG_cons, if_neg h, if_neg h, ixG_same E n]
theorem valG_put : ∀ (E : Gs) (n : Net) (c : Nat) (m : Net), valG (putG E n c) m = if sameN n m then c else valG E m
  | [], n, c, m => by
    show valG [(n, c)] m = _
    rw [valG_cons]
  | p :: E, n, c, m => by
    rw [putG_cons]
    by_cases h : sameN p.1 n = true
    · rw [if_pos h, valG_cons, valG_cons]
      have e := (sameN_iff _ _).1 h
      by_cases h2 : sameN n m = true
      · rw [if_pos h2, if_pos h2]
      · rw [if_neg h2, if_neg h2, e, if_neg h2]
    · rw [if_neg h, valG_cons, valG_cons, valG_put E n c m]
      by_cases h2 : sameN n m = true
      · have e := (sameN_iff _ _).1 h2
        rw [if_pos h2, if_pos h2, if_neg]
        rw [← e]; exact h
      · rw [if_neg h2, if_neg h2]
theorem putG_len (E : Gs) (n : Net) (c : Nat) : (putG E n c).length ≤ E.length + 1 := by
  unfold putG openG
  rw [List.length_set]
  split
  · omega
  · simp
theorem valG_next {E : Gs} {l : List Pr} {i : Nat} (h : ∀ n, valG E n = cntR (l.take i) n) (hi : i < l.length) (n : Net) : valG (putG E (gR l[i]!) (valG E (gR l[i]!) + 1)) n = cntR (l.take (i + 1)) n := by
  rw [valG_put, cnt_next hi, h n]
  by_cases e : sameN (gR l[i]!) n = true
  · rw [if_pos e, if_pos e, h, (sameN_iff _ _).1 e]
  · rw [if_neg e, if_neg e, Nat.add_zero]
end Go.Proofs.Ytanphaahcmfkcaa.Cw
