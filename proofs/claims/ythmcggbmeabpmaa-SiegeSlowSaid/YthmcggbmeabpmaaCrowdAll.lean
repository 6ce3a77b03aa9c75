/- Of layer 20 (crowd), in plain words: who is younger, how many are of a group, who is picked; a list of groups with their numbers. -/
import Derived.Test.YthmcggbmeabpmaaRankTurns
import Derived.Test.YthmcggbmeabpmaaPeersAll
import Derived.Test.YthmcggbmeabpmaaTail
import Derived.Test.YthmcggbmeabpmaaRef08All
import Derived.Test.YthmcggbmeabpmaaRef09All
import Derived.Deep.RegionHeld3
namespace Go.Proofs.Ythmcggbmeabpmaa.Cw
set_option maxRecDepth 100000
set_option linter.unusedVariables false
set_option linter.unusedSimpArgs false
open Dec Words V4 V6 Ad Ci En Sat Ha Pe Stb Gr Mi Ra
/-- Compared by a number, then by what is left. -/
def lexC {α : Type} (k : α → Int) (c : α → α → Int) (x y : α) : Int := if k x = k y then c x y else if k x < k y then -1 else 1
section
variable {α : Type} {k : α → Int} {c : α → α → Int}
theorem lex_flip (hf : ∀ x y, c x y = -c y x) (x y : α) : lexC k c x y = -lexC k c y x := by
  unfold lexC
  by_cases h : k x = k y
  · rw [if_pos h, if_pos h.symm, hf]
  · rw [if_neg h, if_neg (show ¬ k y = k x by omega)]
    by_cases h2 : k x < k y
    · rw [if_pos h2, if_neg (by omega)]
    · rw [if_neg h2, if_pos (by omega)]; rfl
theorem lex_zero (x y : α) : lexC k c x y = 0 ↔ k x = k y ∧ c x y = 0 := by
  unfold lexC
  by_cases h : k x = k y
  · rw [if_pos h]; exact ⟨fun e => ⟨h, e⟩, fun e => e.2⟩
  · rw [if_neg h]
    constructor
    · intro e; split at e <;> omega
    · intro e; exact (h e.1).elim
theorem lex_le (hl : ∀ x y z, c x y ≤ 0 → c y z ≤ 0 → c x z ≤ 0) {x y z : α} (h1 : lexC k c x y ≤ 0) (h2 : lexC k c y z ≤ 0) : lexC k c x z ≤ 0 := by
  unfold lexC at *
  by_cases a : k x = k y
  · rw [if_pos a] at h1
    by_cases b : k y = k z
    · rw [if_pos b] at h2
      rw [if_pos (a.trans b)]; exact hl _ _ _ h1 h2
    · rw [if_neg b] at h2
      rw [if_neg (by omega), a]; exact h2
  · rw [if_neg a] at h1
    have a2 : k x < k y := by
      by_cases q : k x < k y
      · exact q
      · rw [if_neg q] at h1; omega
    by_cases b : k y = k z
    · rw [if_neg (by omega), if_pos (by omega)]; omega
    · rw [if_neg b] at h2
      have b2 : k y < k z := by
        by_cases q : k y < k z
        · exact q
        · rw [if_neg q] at h2; omega
      rw [if_neg (by omega), if_pos (by omega)]; omega
theorem lex_key {x y : α} (h : lexC k c x y ≤ 0) : k x ≤ k y := by
  unfold lexC at h
  by_cases a : k x = k y
  · omega
  · rw [if_neg a] at h
    by_cases q : k x < k y
    · omega
    · rw [if_neg q] at h; omega
theorem lex_pos (x y : α) : 0 < lexC k c x y ↔ k y < k x ∨ (k x = k y ∧ 0 < c x y) := by
  unfold lexC
  by_cases a : k x = k y
  · rw [if_pos a]
    constructor
    · intro h; exact Or.inr ⟨a, h⟩
    · rintro (h | h)
      · omega
      · exact h.2
  · rw [if_neg a]
    by_cases q : k x < k y
    · rw [if_pos q]; omega
    · rw [if_neg q]; omega
end
/-- Who came later, compared by Since and then by the end. -/
def cmpY : Pr → Pr → Int := lexC (fun x => x.t) (fun x y => cmpE x.e y.e)
def youngR (x y : Pr) : Bool := decide (0 < cmpY x y)
theorem cmpY_flip (x y : Pr) : cmpY x y = -cmpY y x := lex_flip (fun _ _ => cmpE_flip _ _) x y
theorem cmpY_le {x y z : Pr} (h1 : cmpY x y ≤ 0) (h2 : cmpY y z ≤ 0) : cmpY x z ≤ 0 := lex_le (k := fun x : Pr => x.t) (c := fun x y => cmpE x.e y.e) (fun _ _ _ a b => cmpE_le a b) h1 h2
theorem cmpY_zero {x y : Pr} (h : cmpY x y = 0) : x.e = y.e := (cmpE_zero _ _).1 ((lex_zero x y).1 h).2
theorem cmpY_or (x y : Pr) : cmpY x y = if cmpI x.t y.t = 0 then cmpE x.e y.e else cmpI x.t y.t := by
  unfold cmpY lexC
  by_cases h : x.t = y.t
  · rw [if_pos h, if_pos ((cmpI_zero _ _).2 h)]
  · rw [if_neg h, if_neg (fun e => h ((cmpI_zero _ _).1 e))]
    unfold cmpI
    by_cases q : x.t < y.t
    · rw [if_pos q, if_pos q]
    · rw [if_neg q, if_neg q, if_pos (by omega)]
theorem young_same {x y : Pr} (h : x.t = y.t) : youngR x y = decide (0 < cmpE x.e y.e) := by
  unfold youngR cmpY lexC
  rw [if_pos h]
theorem young_other {x y : Pr} (h : x.t ≠ y.t) : youngR x y = decide (y.t < x.t) := by
  unfold youngR
  rw [decide_eq_decide]
  have h2 := lex_pos (k := fun x : Pr => x.t) (c := fun x y => cmpE x.e y.e) x y
  constructor
  · intro h3
    rcases h2.1 h3 with h4 | h4
    · exact h4
    · exact (h h4.1).elim
  · intro h3; exact h2.2 (Or.inl h3)
/-- A peer's group. -/
def gR (x : Pr) : Net := groupN x.e.a
theorem gR_ok {x : Pr} (h : x.ok) : (gR x).ok := group_ok h.1.1
/-- How many are of a group. -/
def cntR (l : List Pr) (n : Net) : Nat := l.countP fun x => sameN (gR x) n
theorem cnt_le (l : List Pr) (n : Net) : cntR l n ≤ l.length := List.countP_le_length
theorem cnt_perm {l m : List Pr} (h : l.Perm m) (n : Net) : cntR l n = cntR m n := h.countP_eq _
theorem cnt_next {l : List Pr} {i : Nat} (hi : i < l.length) (n : Net) : cntR (l.take (i + 1)) n = cntR (l.take i) n + (if sameN (gR l[i]!) n then 1 else 0) := by
  unfold cntR
  rw [List.take_succ_eq_append_getElem hi, List.countP_append, List.countP_singleton, getElem!_pos l i hi]
theorem cnt_done {l : List Pr} (n : Net) : cntR (l.take l.length) n = cntR l n := by rw [List.take_of_length_le (Nat.le_refl _)]
theorem cnt_pos {l : List Pr} {i : Nat} (hi : i < l.length) : 0 < cntR l (gR l[i]!) := by
  unfold cntR
  rw [List.countP_pos_iff]
  exact ⟨l[i]!, by rw [getElem!_pos l i hi]; exact List.getElem_mem _, (sameN_iff _ _).2 rfl⟩
def crowdR (l : List Pr) (i : Int) : Int := if 0 ≤ i ∧ i < l.length then (cntR l (gR l[i.toNat]!) : Int) else 0
theorem crowd_at {l : List Pr} {i : Nat} (hi : i < l.length) : crowdR l (i : Int) = (cntR l (gR l[i]!) : Int) := by
  unfold crowdR
  rw [if_pos (by omega), Int.toNat_natCast]
theorem crowd_off {l : List Pr} {i : Int} (h : i < 0 ∨ (l.length : Int) ≤ i) : crowdR l i = 0 := by
  unfold crowdR
  rw [if_neg (by omega)]
/-- Who has to go first: of the greater crowd, then the younger. -/
def cmpB (l : List Pr) : Pr → Pr → Int := lexC (fun x => (cntR l (gR x) : Int)) cmpY
theorem cmpB_flip (l : List Pr) (x y : Pr) : cmpB l x y = -cmpB l y x := lex_flip cmpY_flip x y
theorem cmpB_le {l : List Pr} {x y z : Pr} (h1 : cmpB l x y ≤ 0) (h2 : cmpB l y z ≤ 0) : cmpB l x z ≤ 0 := lex_le (k := fun x => (cntR l (gR x) : Int)) (c := cmpY) (fun _ _ _ a b => cmpY_le a b) h1 h2
def beatsR (l : List Pr) (x y : Pr) : Bool := decide (0 < cmpB l x y)
theorem beats_is (l : List Pr) (x y : Pr) : beatsR l x y = (decide (cntR l (gR y) < cntR l (gR x)) || (decide (cntR l (gR x) = cntR l (gR y)) && youngR x y)) := by
  unfold beatsR youngR cmpB
  have h := lex_pos (k := fun x => (cntR l (gR x) : Int)) (c := cmpY) x y
  rw [Bool.eq_iff_iff]
  simp only [decide_eq_true_eq, Bool.or_eq_true, Bool.and_eq_true]
  constructor
  · intro h2
    rcases h.1 h2 with h3 | h3
    · exact Or.inl (by have : (cntR l (gR y) : Int) < cntR l (gR x) := h3; omega)
    · exact Or.inr ⟨by have : (cntR l (gR x) : Int) = cntR l (gR y) := h3.1; omega, h3.2⟩
  · rintro (h2 | h2)
    · exact h.2 (Or.inl (by show (cntR l (gR y) : Int) < cntR l (gR x); omega))
    · exact h.2 (Or.inr ⟨by show (cntR l (gR x) : Int) = cntR l (gR y); omega, h2.2⟩)
/-- Who is picked of the first i + 1. -/
def bestR (l : List Pr) : Nat → Nat
  | 0 => 0
  | i + 1 => if beatsR l l[i + 1]! l[bestR l i]! then i + 1 else bestR l i
theorem best_le (l : List Pr) : ∀ i, bestR l i ≤ i
  | 0 => Nat.le_refl _
  | i + 1 => by
    unfold bestR
    split
    · omega
    · have := best_le l i; omega
theorem best_max (l : List Pr) : ∀ i k, k ≤ i → cmpB l l[k]! l[bestR l i]! ≤ 0
  | 0, k, h => by
    obtain rfl : k = 0 := by omega
    have h1 := cmpB_flip l l[0]! l[0]!
    show cmpB l l[0]! l[0]! ≤ 0
    omega
  | i + 1, k, h => by
    have hs := cmpB_flip l l[i + 1]! l[i + 1]!
    unfold bestR
    by_cases hb : beatsR l l[i + 1]! l[bestR l i]! = true
    · rw [if_pos hb]
      have hb2 : 0 < cmpB l l[i + 1]! l[bestR l i]! := of_decide_eq_true hb
      by_cases e : k = i + 1
      · subst e; omega
      · have h1 := best_max l i k (by omega)
        have h2 := cmpB_flip l l[bestR l i]! l[i + 1]!
        exact cmpB_le h1 (by omega)
    · rw [if_neg hb]
      have hb2 : ¬ 0 < cmpB l l[i + 1]! l[bestR l i]! := fun h => hb (decide_eq_true h)
      by_cases e : k = i + 1
      · subst e; omega
      · exact best_max l i k (by omega)
theorem best_first (l : List Pr) : ∀ i k, k < bestR l i → beatsR l l[bestR l i]! l[k]! = true
  | 0, k, h => by simp [bestR] at h
  | i + 1, k, h => by
    unfold bestR at h ⊢
    by_cases hb : beatsR l l[i + 1]! l[bestR l i]! = true
    · rw [if_pos hb] at h ⊢
      have hb2 : 0 < cmpB l l[i + 1]! l[bestR l i]! := of_decide_eq_true hb
      have h1 := best_max l i k (by omega)
      refine decide_eq_true ?_
      by_cases c : 0 < cmpB l l[i + 1]! l[k]!
      · exact c
      · have := cmpB_le (x := l[i + 1]!) (y := l[k]!) (z := l[bestR l i]!) (by omega) h1
        omega
    · rw [if_neg hb] at h ⊢
      exact best_first l i k h
def pickR (l : List Pr) : Int := if l.length = 0 then -1 else (bestR l (l.length - 1) : Int)
/-- Of the first i: who is picked, and how great his crowd is. -/
def pickI (l : List Pr) (i : Nat) : Int := if i = 0 then -1 else (bestR l (i - 1) : Int)
def mostI (l : List Pr) (i : Nat) : Nat := if i = 0 then 0 else cntR l (gR l[bestR l (i - 1)]!)
theorem pickI_zero (l : List Pr) : pickI l 0 = -1 := rfl
theorem pickI_done (l : List Pr) : pickI l l.length = pickR l := rfl
theorem pickI_succ (l : List Pr) (i : Nat) : pickI l (i + 1) = (bestR l i : Int) := rfl
theorem mostI_succ (l : List Pr) (i : Nat) : mostI l (i + 1) = cntR l (gR l[bestR l i]!) := rfl
/-- A round: a greater crowd. -/
theorem round_more {l : List Pr} {i : Nat} (hi : i < l.length) (h : mostI l i < cntR l (gR l[i]!)) : pickI l (i + 1) = (i : Int) ∧ mostI l (i + 1) = cntR l (gR l[i]!) := by
  have e : bestR l i = i := by
    cases i with
    | zero => rfl
    | succ j =>
      unfold bestR
      rw [if_pos]
      rw [beats_is, decide_eq_true (show cntR l (gR l[bestR l j]!) < cntR l (gR l[j + 1]!) from h), Bool.true_or]
  rw [pickI_succ, mostI_succ, e]
  exact ⟨rfl, rfl⟩
/-- One as great: the number picked is one of the list's. -/
theorem round_same {l : List Pr} {i : Nat} (hi : i < l.length) (h : ¬ mostI l i < cntR l (gR l[i]!)) : ∃ p : Nat, pickI l i = (p : Int) ∧ p < l.length ∧
    ((cntR l (gR l[i]!) = mostI l i ∧ youngR l[i]! l[p]! = true) → pickI l (i + 1) = (i : Int) ∧ mostI l (i + 1) = cntR l (gR l[i]!)) ∧
    (¬ (cntR l (gR l[i]!) = mostI l i ∧ youngR l[i]! l[p]! = true) → pickI l (i + 1) = (p : Int) ∧ mostI l (i + 1) = mostI l i) := by
  cases i with
  | zero => have := cnt_pos hi; exact (h this).elim
  | succ j =>
    have hm : mostI l (j + 1) = cntR l (gR l[bestR l j]!) := mostI_succ l j
    rw [hm] at h ⊢
    have hb := best_le l j
    refine ⟨bestR l j, pickI_succ l j, by omega, ?_, ?_⟩
    · rintro ⟨h1, h2⟩
      have e : bestR l (j + 1) = j + 1 := by
        show (if beatsR l l[j + 1]! l[bestR l j]! then j + 1 else bestR l j) = j + 1
        rw [if_pos]
        rw [beats_is, decide_eq_true h1, h2, Bool.and_true, Bool.or_true]
      rw [pickI_succ, mostI_succ, e]
      exact ⟨rfl, rfl⟩
    · intro hn
      have e : bestR l (j + 1) = bestR l j := by
        show (if beatsR l l[j + 1]! l[bestR l j]! then j + 1 else bestR l j) = bestR l j
        rw [if_neg]
        rw [beats_is, decide_eq_false h, Bool.false_or, Bool.and_eq_true, decide_eq_true_eq]
        exact hn
      rw [pickI_succ, mostI_succ, e]
      exact ⟨rfl, rfl⟩
/-- The document's: is one better than the first k? -/
def bestB (l : List Pr) (i k : Nat) : Bool := decide (∀ p, p < k → beatsR l l[p]! l[i]! = false)
theorem bestB_zero (l : List Pr) (i : Nat) : bestB l i 0 = true := decide_eq_true fun p h => by omega
theorem bestB_next (l : List Pr) (i k : Nat) : bestB l i (k + 1) = (bestB l i k && !beatsR l l[k]! l[i]!) := by
  unfold bestB
  rw [Bool.eq_iff_iff, Bool.and_eq_true, decide_eq_true_eq, decide_eq_true_eq, Bool.not_eq_true']
  constructor
  · intro h; exact ⟨fun p hp => h p (by omega), h k (by omega)⟩
  · rintro ⟨h1, h2⟩ p hp
    by_cases e : p = k
    · subst e; exact h2
    · exact h1 p (by omega)
theorem not_beats (l : List Pr) (x y : Pr) : (!beatsR l x y) = (decide (cntR l (gR x) ≤ cntR l (gR y)) && (decide (cntR l (gR x) < cntR l (gR y)) || !youngR x y)) := by
  rw [beats_is]
  rcases Nat.lt_trichotomy (cntR l (gR x)) (cntR l (gR y)) with h | h | h
  · rw [decide_eq_false (show ¬ cntR l (gR y) < cntR l (gR x) by omega), decide_eq_false (show ¬ cntR l (gR x) = cntR l (gR y) by omega), decide_eq_true (Nat.le_of_lt h), decide_eq_true h]; rfl
  · rw [decide_eq_false (show ¬ cntR l (gR y) < cntR l (gR x) by omega), decide_eq_true h, decide_eq_true (Nat.le_of_eq h), decide_eq_false (show ¬ cntR l (gR x) < cntR l (gR y) by omega)]; simp
  · rw [decide_eq_true h, decide_eq_false (show ¬ cntR l (gR x) ≤ cntR l (gR y) by omega)]; rfl
theorem bestB_pick {l : List Pr} (h0 : 0 < l.length) {i : Nat} (hi : i < l.length) : bestB l i l.length = true → i ≤ bestR l (l.length - 1) → i = bestR l (l.length - 1) := by
  intro h hle
  by_cases e : i = bestR l (l.length - 1)
  · exact e
  · have h1 := best_first l (l.length - 1) i (by omega)
    have h2 := best_le l (l.length - 1)
    have h3 := of_decide_eq_true h (bestR l (l.length - 1)) (by omega)
    rw [h1] at h3; cases h3
theorem bestB_done {l : List Pr} (h0 : 0 < l.length) : bestB l (bestR l (l.length - 1)) l.length = true := by
  refine decide_eq_true fun p hp => ?_
  have h := best_max l (l.length - 1) p (by omega)
  exact decide_eq_false (by omega)
/-- No one's crowd is greater than that of who is picked, and of its own group nobody is younger. -/
theorem pick_most {l : List Pr} {i : Nat} (hi : i < l.length) : cntR l (gR l[i]!) ≤ cntR l (gR l[bestR l (l.length - 1)]!) := by
  have h := lex_key (best_max l (l.length - 1) i (by omega))
  have h2 : (cntR l (gR l[i]!) : Int) ≤ cntR l (gR l[bestR l (l.length - 1)]!) := h
  omega
theorem pick_young {l : List Pr} {i : Nat} (hi : i < l.length) (h : sameN (gR l[i]!) (gR l[bestR l (l.length - 1)]!) = true) : youngR l[i]! l[bestR l (l.length - 1)]! = false := by
  have e := (sameN_iff _ _).1 h
  have h1 := best_max l (l.length - 1) i (by omega)
  unfold cmpB lexC at h1
  rw [if_pos (by show (cntR l (gR l[i]!) : Int) = _; rw [e])] at h1
  exact decide_eq_false (by omega)
theorem cmpB_perm {l m : List Pr} (h : l.Perm m) (x y : Pr) : cmpB l x y = cmpB m x y := by
  have e : (fun x => (cntR l (gR x) : Int)) = fun x => (cntR m (gR x) : Int) := funext fun x => by rw [cnt_perm h]
  unfold cmpB
  rw [e]
/-- One and the same is picked, however they are turned. -/
theorem pick_turned {l m : List Pr} (hp : m.Perm l) (hu : Unlike l) (h0 : 0 < l.length) : m[bestR m (m.length - 1)]! = l[bestR l (l.length - 1)]! := by
  have hl := hp.length_eq
  have b1 := best_le l (l.length - 1)
  have b2 := best_le m (m.length - 1)
  obtain ⟨v, hv⟩ : ∃ v, v = bestR l (l.length - 1) := ⟨_, rfl⟩
  obtain ⟨q, hq⟩ : ∃ q, q = bestR m (m.length - 1) := ⟨_, rfl⟩
  rw [← hv] at b1
  rw [← hq] at b2
  have hv1 : v < l.length := by omega
  have hq1 : q < m.length := by omega
  have m1 : m[q]! ∈ l := hp.mem_iff.1 (by rw [getElem!_pos m q hq1]; exact List.getElem_mem _)
  have m2 : l[v]! ∈ m := hp.mem_iff.2 (by rw [getElem!_pos l v hv1]; exact List.getElem_mem _)
  obtain ⟨j, hj, ej⟩ := List.getElem_of_mem m1
  obtain ⟨p, hpl, ep⟩ := List.getElem_of_mem m2
  have g1 := best_max l (l.length - 1) j (by omega)
  have g2 := best_max m (m.length - 1) p (by omega)
  rw [← hv, getElem!_pos l j hj, ej] at g1
  rw [← hq, getElem!_pos m p hpl, ep, cmpB_perm hp] at g2
  have g3 := cmpB_flip l l[v]! m[q]!
  have g4 : cmpB l m[q]! l[v]! = 0 := by omega
  have g5 := cmpY_zero ((lex_zero _ _).1 g4).2
  rw [← hv, ← hq]
  rw [← ej, ← getElem!_pos l j hj] at g5 ⊢
  rw [unlike_at hu hj hv1 g5]
/-- Groups with their numbers, as they were met first. -/
abbrev Gs := List (Net × Nat)
def ixG (E : Gs) (n : Net) : Nat := E.findIdx fun p => sameN p.1 n
def valG (E : Gs) (n : Net) : Nat := if h : ixG E n < E.length then E[ixG E n].2 else 0
def openG (E : Gs) (n : Net) : Gs := if ixG E n < E.length then E else E ++ [(n, 0)]
def putG (E : Gs) (n : Net) (c : Nat) : Gs := (openG E n).set (ixG E n) (n, c)
theorem ixG_le (E : Gs) (n : Net) : ixG E n ≤ E.length := List.findIdx_le_length
theorem ixG_at {E : Gs} {n : Net} (h : ixG E n < E.length) : E[ixG E n].1 = n := by
  have := List.findIdx_getElem (xs := E) (p := fun p : Net × Nat => sameN p.1 n) (w := h)
  exact (sameN_iff E[ixG E n].1 n).1 this
theorem ixG_cons (p : Net × Nat) (E : Gs) (n : Net) : ixG (p :: E) n = if sameN p.1 n then 0 else ixG E n + 1 := by
  unfold ixG
  rw [List.findIdx_cons]
  cases sameN p.1 n <;> rfl
theorem valG_cons (p : Net × Nat) (E : Gs) (n : Net) : valG (p :: E) n = if sameN p.1 n then p.2 else valG E n := by
  unfold valG
  have e := ixG_cons p E n
  by_cases h : sameN p.1 n = true
  · rw [if_pos h] at e ⊢
    rw [dif_pos (by rw [e]; simp)]
    simp only [e, List.getElem_cons_zero]
  · rw [if_neg h] at e ⊢
    by_cases h2 : ixG E n < E.length
    · rw [dif_pos (by rw [e]; simp; omega), dif_pos h2]
      simp only [e, List.getElem_cons_succ]
    · rw [dif_neg (by rw [e]; simp; omega), dif_neg h2]
theorem valG_nil (n : Net) : valG [] n = 0 := rfl
theorem openG_cons (p : Net × Nat) (E : Gs) (n : Net) : openG (p :: E) n = if sameN p.1 n then p :: E else p :: openG E n := by
  unfold openG
  have e := ixG_cons p E n
  by_cases h : sameN p.1 n = true
  · rw [if_pos h] at e ⊢
    rw [if_pos (by rw [e]; simp)]
  · rw [if_neg h] at e ⊢
    by_cases h2 : ixG E n < E.length
    · rw [if_pos (by rw [e]; simp; omega), if_pos h2]
    · rw [if_neg (by rw [e]; simp; omega), if_neg h2]; rfl
theorem putG_cons (p : Net × Nat) (E : Gs) (n : Net) (c : Nat) : putG (p :: E) n c = if sameN p.1 n then (n, c) :: E else p :: putG E n c := by
  unfold putG
  rw [openG_cons, ixG_cons]
  by_cases h : sameN p.1 n = true
  · rw [if_pos h, if_pos h, if_pos h]; rfl
  · rw [if_neg h, if_neg h, if_neg h]; rfl
theorem valG_open : ∀ (E : Gs) (n m : Net), valG (openG E n) m = valG E m
  | [], n, m => by
    show valG [(n, 0)] m = 0
    rw [valG_cons]; split <;> rfl
  | p :: E, n, m => by
    rw [openG_cons]
    split
    · rfl
    · rw [valG_cons, valG_cons, valG_open E n m]
theorem ixG_open (E : Gs) (n : Net) : ixG E n < (openG E n).length := by
  unfold openG
  split
  · assumption
  · have := ixG_le E n; simp; omega
theorem ixG_same : ∀ (E : Gs) (n : Net), ixG (openG E n) n = ixG E n
  | [], n => by
    show ixG [(n, 0)] n = ixG [] n
    rw [ixG_cons, if_pos ((sameN_iff _ _).2 rfl)]; rfl
  | p :: E, n => by
    rw [openG_cons]
    by_cases h : sameN p.1 n = true
    · rw [if_pos h]
    · rw [if_neg h, ixG_cons, ixG_cons, if_neg h, if_neg h, ixG_same E n]
theorem valG_put : ∀ (E : Gs) (n : Net) (c : Nat) (m : Net), valG (putG E n c) m = if sameN n m then c else valG E m
  | [], n, c, m => by
    show valG [(n, c)] m = _
    rw [valG_cons]
  | p :: E, n, c, m => by
    rw [putG_cons]
    by_cases h : sameN p.1 n = true
    · rw [if_pos h, valG_cons, valG_cons]
      have e := (sameN_iff _ _).1 h
      by_cases h2 : sameN n m = true
      · rw [if_pos h2, if_pos h2]
      · rw [if_neg h2, if_neg h2, e, if_neg h2]
    · rw [if_neg h, valG_cons, valG_cons, valG_put E n c m]
      by_cases h2 : sameN n m = true
      · have e := (sameN_iff _ _).1 h2
        rw [if_pos h2, if_pos h2, if_neg]
        rw [← e]; exact h
      · rw [if_neg h2, if_neg h2]
theorem putG_len (E : Gs) (n : Net) (c : Nat) : (putG E n c).length ≤ E.length + 1 := by
  unfold putG openG
  rw [List.length_set]
  split
  · omega
  · simp
theorem valG_next {E : Gs} {l : List Pr} {i : Nat} (h : ∀ n, valG E n = cntR (l.take i) n) (hi : i < l.length) (n : Net) : valG (putG E (gR l[i]!) (valG E (gR l[i]!) + 1)) n = cntR (l.take (i + 1)) n := by
  rw [valG_put, cnt_next hi, h n]
  by_cases e : sameN (gR l[i]!) n = true
  · rw [if_pos e, if_pos e, h, (sameN_iff _ _).1 e]
  · rw [if_neg e, if_neg e, Nat.add_zero]
end Go.Proofs.Ythmcggbmeabpmaa.Cw
/- Contracts of package crowd: who is younger, the numbers of the groups in a map, who is picked. -/
namespace Go.Proofs.Ythmcggbmeabpmaa.Cw
set_option maxRecDepth 100000
open Go.ChangeShapes Go.WideShapes Go.ChangeAt Go.RowKit
open Go.ChangeMaps (setBlock shut_map_nil open_string shut_string keptBut_setBlock frozen?_setBlock heap_setBlock_same heap_setBlock_other)
open Dec Words V4 V6 Ad Ci En Sat Ha Pe Stb Gr Mi Ra Go.Deep
set_option linter.unusedVariables false
abbrev netV (n : Net) : Value := .agg #[.bool n.a.v6, .int .u64 n.a.hi, .int .u64 n.a.lo, .int .i64 n.n]
/-- Entries of a map of groups: the i-th is born at k + i. -/
def mkG : Nat → Gs → List MapEntry
  | _, [] => []
  | k, p :: E => ⟨netV p.1, .int .i64 (p.2 : Int), k⟩ :: mkG (k + 1) E
/-- A map of groups with their numbers. -/
def MapC (b : Nat) (w : World) (E : Gs) : Prop := w.heap[b]? = some (.map (mkG 0 E).toArray E.length)
theorem MapC.on {b : Nat} {w w' : World} {E : Gs} (h : MapC b w E) (hb : Below w.heap.size w w') : MapC b w' E := (hb.block b (lt_of_block h)).trans h
theorem MapC.low {b B : Nat} {w w' : World} {E : Gs} (h : MapC b w E) (hb : Below B w w') (hB : b < B) : MapC b w' E := (hb.block b hB).trans h
theorem MapC.lt {b : Nat} {w : World} {E : Gs} (h : MapC b w E) : b < w.heap.size := lt_of_block h
theorem MapC.new (w : World) : MapC w.heap.size (w.alloc (.map #[] 0)) [] := by show (w.heap.push _)[w.heap.size]? = _; exact Array.getElem?_push_size
theorem mkG_len : ∀ (k : Nat) (E : Gs), (mkG k E).length = E.length
  | _, [] => rfl
  | k, p :: E => by rw [mkG, List.length_cons, List.length_cons, mkG_len]
theorem mkG_at : ∀ (k : Nat) (E : Gs) (i : Nat) (h : i < E.length), (mkG k E)[i]? = some ⟨netV E[i].1, .int .i64 (E[i].2 : Int), k + i⟩
  | k, p :: E, 0, h => rfl
  | k, p :: E, i + 1, h => by
    rw [mkG, List.getElem?_cons_succ, mkG_at (k + 1) E i (by simpa using h)]
    simp only [List.getElem_cons_succ, Option.some.injEq, MapEntry.mk.injEq, true_and]
    omega
theorem mkG_one : ∀ (k : Nat) (E : Gs) (n : Net) (c : Nat), mkG k (E ++ [(n, c)]) = mkG k E ++ [⟨netV n, .int .i64 (c : Int), k + E.length⟩]
  | k, [], n, c => rfl
  | k, p :: E, n, c => by
    rw [List.cons_append, mkG, mkG, mkG_one (k + 1) E n c, List.cons_append]
    simp only [List.length_cons]
    rw [show k + 1 + E.length = k + (E.length + 1) by omega]
theorem mkG_set : ∀ (k : Nat) (E : Gs) (i : Nat) (h : i < E.length) (n : Net) (c : Nat), E[i].1 = n → (mkG k E).modify i (fun e => { e with val := .int .i64 (c : Int) }) = mkG k (E.set i (n, c))
  | k, p :: E, 0, h, n, c, e => by
    rw [mkG, List.modify_zero_cons, List.set_cons_zero, mkG]
    have : p.1 = n := e
    rw [this]
  | k, p :: E, i + 1, h, n, c, e => by
    rw [mkG, List.modify_succ_cons, List.set_cons_succ, mkG, mkG_set (k + 1) E i (by simpa using h) n c (by simpa using e)]
theorem mkG_key : ∀ (k : Nat) (E : Gs) (i : Nat) (h : i < E.length) (n : Net), E[i].1 = n → (mkG k E).modify i (fun e => { e with key := netV n }) = mkG k E
  | k, p :: E, 0, h, n, e => by
    rw [mkG, List.modify_zero_cons]
    have : p.1 = n := e
    rw [this]
  | k, p :: E, i + 1, h, n, e => by
    rw [mkG, List.modify_succ_cons, mkG_key (k + 1) E i (by simpa using h) n (by simpa using e)]
theorem mkG_born : ∀ (k : Nat) (E : Gs) (i : Nat), i < E.length → (mkG k E).findIdx? (fun e => (e.born : Int) == ((k + i : Nat) : Int)) = some i
  | k, p :: E, 0, h => by
    rw [mkG, List.findIdx?_cons]
    simp
  | k, p :: E, i + 1, h => by
    have ih := mkG_born (k + 1) E i (by simpa using h)
    have hne : (((k : Nat) : Int) == ((k + (i + 1) : Nat) : Int)) = false := by rw [beq_eq_false_iff_ne]; omega
    rw [show k + 1 + i = k + (i + 1) by omega] at ih
    rw [mkG, List.findIdx?_cons]
    simp only [hne, Bool.false_eq_true, if_false, ih, Option.map_some]
theorem equal_net (m n : Net) (w : World) : (Op.equal 75 (netV m) (netV n)).run Try.prog w = .ok (sameN m n) w := by
  have h := eqNet m n w
  rw [run_eql_struct] at h
  show (Op.equalIn 10000 75 (netV m) (netV n)).run Try.prog w = _
  generalize (Op.equalIn 10000 75 (netV m) (netV n)).run Try.prog w = r at h ⊢
  cases r with
  | ok x w' =>
    simp only [Result.andThen_ok, Result.ok.injEq, Value.bool.injEq] at h ⊢
    exact h
  | halt x w' => cases h
theorem check_run (em : Bool) (n : Net) (w : World) : (Instr.checkKey em 10000 75 (netV n)).run Try.prog w = .ok () w := by
  cases em <;> kernel_rfl
theorem sameN_turn (m n : Net) : sameN m n = sameN n m := by rw [Bool.eq_iff_iff, sameN_iff, sameN_iff]; exact eq_comm
theorem asking_run (n : Net) (w : World) : ∀ (E : Gs) (k i : Nat), (Instr.findAsking 75 (netV n) (mkG k E) i).run Try.prog w = .ok (if ixG E n < E.length then some (i + ixG E n, .int .i64 (valG E n : Int)) else none) w
  | [], k, i => by rw [if_neg (show ¬ ixG [] n < ([] : Gs).length from Nat.not_lt_zero _)]; rfl
  | p :: E, k, i => by
    have ih := asking_run n w E (k + 1) (i + 1)
    have he : (Op.equal 75 (netV n) (netV p.1)).run Try.prog w = .ok (sameN n p.1) w := equal_net n p.1 w
    rw [mkG]
    unfold Instr.findAsking
    simp only [Sem.run_bind, he, Result.andThen_ok]
    rw [ixG_cons, valG_cons, ← sameN_turn n p.1]
    cases hs : sameN n p.1
    · simp only [Bool.false_eq_true, if_false, ih, List.length_cons]
      by_cases hl : ixG E n < E.length
      · rw [if_pos hl, if_pos (by omega)]
        congr 3; omega
      · rw [if_neg hl, if_neg (by omega)]
    · simp only [if_true, List.length_cons]
      rw [if_pos (Nat.succ_pos _)]; rfl
theorem findKey_run (n : Net) (w : World) (E : Gs) :
    (Instr.findKey 75 (netV n) (mkG 0 E)).run Try.prog w = .ok (if ixG E n < E.length then some (ixG E n, .int .i64 (valG E n : Int)) else none) w := by
  have ha := asking_run n w E 0 0
  rw [Nat.zero_add] at ha
  unfold Instr.findKey
  simp only [Sem.run_bind, run_underlying Try.underlying75, Result.andThen_ok]
  cases E with
  | nil => rw [if_neg (show ¬ ixG [] n < ([] : Gs).length from Nat.not_lt_zero _)]; rfl
  | cons p E => exact ha
theorem zero_int (w : World) : (zeroValue 3).run Try.prog w = .ok (.int .i64 0) w := by kernel_rfl
theorem lookup_run {b : Nat} {w : World} {E : Gs} (h : MapC b w E) (n : Net) :
    (Instr.lookup 78 (.map (some b)) (netV n) false).run Try.prog w = .ok (.int .i64 (valG E n : Int)) w := by
  have hf := findKey_run n w E
  have hc := check_run (mkG 0 E).toArray.isEmpty n w
  have hz := zero_int w
  unfold Instr.lookup
  simp only [Sem.run_bind, run_underlying Try.underlying78, Result.andThen_ok, MapKept.run_getObj_map h, Sem.run_pure, hc, hf]
  by_cases hi : ixG E n < E.length
  · rw [if_pos hi]; rfl
  · rw [if_neg hi]
    have e0 : valG E n = 0 := dif_neg hi
    rw [e0]
    simp [hz]
theorem same_bits (n : Net) : Instr.sameBits 10000 (netV n) (netV n) = true := by simp [Instr.sameBits]
theorem stays_run (n : Net) (w : World) : (Instr.keyThatStays (netV n) (netV n)).run Try.prog w = .ok (netV n) w := by
  unfold Instr.keyThatStays
  rw [same_bits, if_pos rfl]; rfl
theorem entry_run {b : Nat} {w : World} {E : Gs} (h : MapC b w E) (n : Net) :
    ∃ w', (Instr.mapEntry 78 (.map (some b)) (netV n)).run Try.prog w = .ok (.tuple #[.int .i64 (valG E n : Int), .int .i64 (ixG E n : Int)]) w' ∧ MapC b w' (openG E n) ∧ Bt b w w' := by
  have hf := findKey_run n w E
  have hc := check_run false n w
  have hz := zero_int w
  unfold Instr.mapEntry
  simp only [Sem.run_bind, run_underlying Try.underlying78, Result.andThen_ok, MapKept.run_getObj_map h, hc, hf]
  by_cases hi : ixG E n < E.length
  · have hk := mkG_at 0 E (ixG E n) hi
    rw [Nat.zero_add, ixG_at hi] at hk
    have hk2 : (mkG 0 E).toArray[ixG E n]? = some ⟨netV n, .int .i64 (E[ixG E n].2 : Int), ixG E n⟩ := by rw [List.getElem?_toArray]; exact hk
    have hm : (mkG 0 E).toArray.modify (ixG E n) (fun e => { e with key := netV n }) = (mkG 0 E).toArray := by
      apply Array.ext'
      rw [Array.toList_modify]
      exact mkG_key 0 E (ixG E n) hi n (ixG_at hi)
    rw [if_pos hi]
    refine ⟨setBlock w b (.map (mkG 0 E).toArray E.length), ?_, ?_, ⟨rfl, rfl, rfl, by simp [setBlock], fun k hk _ => heap_setBlock_other h _ hk⟩⟩
    · simp only [Sem.run_bind, hk2, Option.map_some, Option.getD_some, stays_run, Result.andThen_ok, hm, MapKept.run_setObj_map _ h, Sem.run_pure]
      rfl
    · show (setBlock w b _).heap[b]? = _
      unfold openG
      rw [if_pos hi]
      exact heap_setBlock_same h _
  · have hl : ixG E n = E.length := by have := ixG_le E n; omega
    have e0 : valG E n = 0 := dif_neg hi
    rw [if_neg hi]
    refine ⟨setBlock w b (.map ((mkG 0 E).toArray.push ⟨netV n, .int .i64 0, E.length⟩) (E.length + 1)), ?_, ?_, ⟨rfl, rfl, rfl, by simp [setBlock], fun k hk _ => heap_setBlock_other h _ hk⟩⟩
    · simp only [Sem.run_bind, hz, Result.andThen_ok, MapKept.run_setObj_map _ h, Sem.run_pure]
      rw [e0, hl]; rfl
    · show (setBlock w b _).heap[b]? = _
      unfold openG
      rw [if_neg hi, heap_setBlock_same h _]
      have e := mkG_one 0 E n 0
      rw [Nat.zero_add] at e
      rw [e]
      simp
theorem store_run {b : Nat} {w : World} {E : Gs} (h : MapC b w E) {n : Net} {i : Nat} (hi : i < E.length) (hn : E[i].1 = n) (c : Nat) :
    ∃ w', (Instr.entryStore 78 (.map (some b)) (.int .i64 (i : Int)) (.int .i64 (c : Int))).run Try.prog w = .ok () w' ∧ MapC b w' (E.set i (n, c)) ∧ Bt b w w' := by
  have hb := mkG_born 0 E i hi
  rw [Nat.zero_add] at hb
  have hidx : (mkG 0 E).toArray.findIdx? (fun e => (e.born : Int) == (i : Int)) = some i := by
    rw [show (mkG 0 E).toArray.findIdx? (fun e => (e.born : Int) == (i : Int)) = (mkG 0 E).findIdx? (fun e => (e.born : Int) == (i : Int)) by simp]
    exact hb
  have hm : (mkG 0 E).toArray.modify i (fun e => { e with val := .int .i64 (c : Int) }) = (mkG 0 (E.set i (n, c))).toArray := by
    apply Array.ext'
    rw [Array.toList_modify]
    exact mkG_set 0 E i hi n c hn
  refine ⟨setBlock w b (.map (mkG 0 (E.set i (n, c))).toArray E.length), ?_, ?_, ⟨rfl, rfl, rfl, by simp [setBlock], fun k hk _ => heap_setBlock_other h _ hk⟩⟩
  · simp [Instr.entryStore, MapKept.run_getObj_map h, asInt, asIntOf, hidx, hm, MapKept.run_setObj_map _ h, Result.andThen, setBlock]
  · show (setBlock w b _).heap[b]? = _
    rw [List.length_set]
    exact heap_setBlock_same h _
set_option maxHeartbeats 4000000 in
theorem groupOf_is (x : Pr) (w : World) (hx : x.ok) : Calls Try.prog 46 #[.agg #[.bool x.e.a.v6, .int .u64 x.e.a.hi, .int .u64 x.e.a.lo, .int .i64 x.e.n, .bool x.i, .int .i64 x.t, .int .i64 x.c.p, .int .i64 x.c.a, .int .i64 x.g, .int .i64 x.k]] w fun e w' => e = .returned (.agg #[.bool (gR x).a.v6, .int .u64 (gR x).a.hi, .int .u64 (gR x).a.lo, .int .i64 (gR x).n]) ∧ Below w.heap.size w w' := by
  have K := Lib.hid (fun W => groupOf_any x.e.a W hx.1.1)
  have L0 : Hid (Lows w ((w.alloc (.cells #[.bool x.e.a.v6, .int .u64 x.e.a.hi, .int .u64 x.e.a.lo, .int .i64 x.e.n, .bool x.i, .int .i64 x.t, .int .i64 x.c.p, .int .i64 x.c.a, .int .i64 x.g, .int .i64 x.k] 41)).alloc (.cells #[.bool false, .int .u64 0, .int .u64 0, .int .i64 0] 75))) := Lib.hid (Lows.alloc (Lows.alloc (Lows.self _) _) _)
  have O2 := Lib.hid (Blk.two w (.cells #[.bool x.e.a.v6, .int .u64 x.e.a.hi, .int .u64 x.e.a.lo, .int .i64 x.e.n, .bool x.i, .int .i64 x.t, .int .i64 x.c.p, .int .i64 x.c.a, .int .i64 x.g, .int .i64 x.k] 41) #[.bool false, .int .u64 0, .int .u64 0, .int .i64 0] 75)
  unfold gR
  generalize groupN x.e.a = n at *
  clear hx
  go_enter Try.func46, Try.ntmps46
  go_wp2_with fail
  refine (K.out _).mono ?_; rintro e w1 ⟨rfl, hb1⟩
  have hl := low_trans L0.out hb1
  have own := O2.out.on hb1
  have t0 := own.cell (j := 0) rfl
  have t1 := own.cell (j := 1) rfl
  have t2 := own.cell (j := 2) rfl
  have t3 := own.cell (j := 3) rfl
  have g0 := own.free 0
  have g1 := own.free 1
  have g2 := own.free 2
  have g3 := own.free 3
  clear K hb1 own O2
  go_wp2_with fail
  exact bodyPost_ret (v := .agg #[.bool n.a.v6, .int .u64 n.a.hi, .int .u64 n.a.lo, .int .i64 n.n]) (by simp [results, Try.results46, go_sem, t0, t1, t2, t3]) rfl ⟨rfl, (((Below.setCell hl (by simp) _).setCell (by simp) _).setCell (by simp) _).setCell (by simp) _⟩
set_option maxHeartbeats 8000000 in
theorem younger_any (x y : Pr) (w : World) (hx : x.ok) (hy : y.ok) : Calls Try.prog 47 #[.agg #[.bool x.e.a.v6, .int .u64 x.e.a.hi, .int .u64 x.e.a.lo, .int .i64 x.e.n, .bool x.i, .int .i64 x.t, .int .i64 x.c.p, .int .i64 x.c.a, .int .i64 x.g, .int .i64 x.k], .agg #[.bool y.e.a.v6, .int .u64 y.e.a.hi, .int .u64 y.e.a.lo, .int .i64 y.e.n, .bool y.i, .int .i64 y.t, .int .i64 y.c.p, .int .i64 y.c.a, .int .i64 y.g, .int .i64 y.k]] w fun e w' => e = .returned (.bool (youngR x y)) ∧ Below w.heap.size w w' := by
  have C1 : Hid (∀ W, Calls Try.prog 59 #[.int .i64 x.t, .int .i64 y.t] W fun e w' => e = .returned (.int .i64 (cmpI x.t y.t)) ∧ Below W.heap.size W w') := Lib.hid fun W => by
    have h := Try.cmp_Compare_int x.t y.t W
    rw [compareInt_is] at h
    exact h.mono fun e w' ⟨he, hw⟩ => ⟨he, by rw [hw]; exact Below.refl _ _⟩
  have C2 := Lib.hid (fun W => compareE_any x.e y.e W hx.1 hy.1)
  have E : youngR x y = decide (0 < cmpY x y) := rfl
  have C3 : Hid (∀ W : World, Calls Try.prog 58 #[.slice (some ⟨W.heap.size, 0, none⟩) 2 2] (W.alloc (.cells #[.int .i64 (cmpI x.t y.t), .int .i64 (cmpE x.e y.e)] 3)) fun e w' => e = .returned (.int .i64 (cmpY x y)) ∧ Lows W w') := Lib.hid fun W => by
    have hc := or_any (cmpI x.t y.t) (cmpE x.e y.e) (cmpY x y) (cmpY_or x y) W.heap.size (W.alloc (.cells #[.int .i64 (cmpI x.t y.t), .int .i64 (cmpE x.e y.e)] 3)) (by rw [cell_of_row _ _ _ _ _ _ (heap_alloc_new W _)]; rfl) (by rw [cell_of_row _ _ _ _ _ _ (heap_alloc_new W _)]; rfl)
    exact hc.mono fun e w' ⟨he, hw⟩ => ⟨he, by rw [hw]; exact Lows.alloc (Lows.self W) _⟩
  have O1 := Lib.hid ((Blk.new w #[.bool x.e.a.v6, .int .u64 x.e.a.hi, .int .u64 x.e.a.lo, .int .i64 x.e.n, .bool x.i, .int .i64 x.t, .int .i64 x.c.p, .int .i64 x.c.a, .int .i64 x.g, .int .i64 x.k] 41).alloc (.cells #[.bool y.e.a.v6, .int .u64 y.e.a.hi, .int .u64 y.e.a.lo, .int .i64 y.e.n, .bool y.i, .int .i64 y.t, .int .i64 y.c.p, .int .i64 y.c.a, .int .i64 y.g, .int .i64 y.k] 41))
  have O2 := Lib.hid (Blk.two w (.cells #[.bool x.e.a.v6, .int .u64 x.e.a.hi, .int .u64 x.e.a.lo, .int .i64 x.e.n, .bool x.i, .int .i64 x.t, .int .i64 x.c.p, .int .i64 x.c.a, .int .i64 x.g, .int .i64 x.k] 41) #[.bool y.e.a.v6, .int .u64 y.e.a.hi, .int .u64 y.e.a.lo, .int .i64 y.e.n, .bool y.i, .int .i64 y.t, .int .i64 y.c.p, .int .i64 y.c.a, .int .i64 y.g, .int .i64 y.k] 41)
  have L0 : Hid (Lows w ((w.alloc (.cells #[.bool x.e.a.v6, .int .u64 x.e.a.hi, .int .u64 x.e.a.lo, .int .i64 x.e.n, .bool x.i, .int .i64 x.t, .int .i64 x.c.p, .int .i64 x.c.a, .int .i64 x.g, .int .i64 x.k] 41)).alloc (.cells #[.bool y.e.a.v6, .int .u64 y.e.a.hi, .int .u64 y.e.a.lo, .int .i64 y.e.n, .bool y.i, .int .i64 y.t, .int .i64 y.c.p, .int .i64 y.c.a, .int .i64 y.g, .int .i64 y.k] 41))) := Lib.hid (Lows.alloc (Lows.alloc (Lows.self _) _) _)
  rw [E]
  clear E hx hy
  generalize cmpY x y = r at *
  generalize cmpI x.t y.t = r1 at *
  generalize cmpE x.e y.e = r2 at *
  go_enter Try.func47, Try.ntmps47
  go_wp2_with fail
  generalize ((w.alloc (.cells #[.bool x.e.a.v6, .int .u64 x.e.a.hi, .int .u64 x.e.a.lo, .int .i64 x.e.n, .bool x.i, .int .i64 x.t, .int .i64 x.c.p, .int .i64 x.c.a, .int .i64 x.g, .int .i64 x.k] 41)).alloc (.cells #[.bool y.e.a.v6, .int .u64 y.e.a.hi, .int .u64 y.e.a.lo, .int .i64 y.e.n, .bool y.i, .int .i64 y.t, .int .i64 y.c.p, .int .i64 y.c.a, .int .i64 y.g, .int .i64 y.k] 41)) = w2 at O1 O2 L0 ⊢
  have hne : Nonempty (Cls (Lows w2)) := ⟨⟨_, Lows.self _⟩⟩
  have f0 : ∀ nq : Cls (Lows w2), nq.w.cell? ⟨w.heap.size, 0, none⟩ = some (.bool x.e.a.v6) := fun nq => Blk.in O1 nq.h rfl
  have f1 : ∀ nq : Cls (Lows w2), nq.w.cell? ⟨w.heap.size, 1, none⟩ = some (.int .u64 x.e.a.hi) := fun nq => Blk.in O1 nq.h rfl
  have f2 : ∀ nq : Cls (Lows w2), nq.w.cell? ⟨w.heap.size, 2, none⟩ = some (.int .u64 x.e.a.lo) := fun nq => Blk.in O1 nq.h rfl
  have f3 : ∀ nq : Cls (Lows w2), nq.w.cell? ⟨w.heap.size, 3, none⟩ = some (.int .i64 x.e.n) := fun nq => Blk.in O1 nq.h rfl
  have f5 : ∀ nq : Cls (Lows w2), nq.w.cell? ⟨w.heap.size, 5, none⟩ = some (.int .i64 x.t) := fun nq => Blk.in O1 nq.h rfl
  have g0 : ∀ nq : Cls (Lows w2), nq.w.cell? ⟨w.heap.size + 1, 0, none⟩ = some (.bool y.e.a.v6) := fun nq => Blk.in O2 nq.h rfl
  have g1 : ∀ nq : Cls (Lows w2), nq.w.cell? ⟨w.heap.size + 1, 1, none⟩ = some (.int .u64 y.e.a.hi) := fun nq => Blk.in O2 nq.h rfl
  have g2 : ∀ nq : Cls (Lows w2), nq.w.cell? ⟨w.heap.size + 1, 2, none⟩ = some (.int .u64 y.e.a.lo) := fun nq => Blk.in O2 nq.h rfl
  have g3 : ∀ nq : Cls (Lows w2), nq.w.cell? ⟨w.heap.size + 1, 3, none⟩ = some (.int .i64 y.e.n) := fun nq => Blk.in O2 nq.h rfl
  have g5 : ∀ nq : Cls (Lows w2), nq.w.cell? ⟨w.heap.size + 1, 5, none⟩ = some (.int .i64 y.t) := fun nq => Blk.in O2 nq.h rfl
  refine Cls.tail (Lows w2) 10 (by kernel_rfl) (by kernel_rfl) (low_drewN (Below.refl _ _) 1) ?_
  simp only [List.take_succ_cons, List.take_zero, List.drop_succ_cons, List.drop_zero]
  repeat (go_big_quiet_step (first | fail | (with_reducible exact Cls.call ((lows_call C1).out _ (Cls.h _))) | (with_reducible exact Cls.call ((lows_call C2).out _ (Cls.h _)))))
  refine wpQuiet_nil ?_
  intro n9
  have hk9 := n9.h
  generalize n9.w = w9 at hk9 ⊢
  clear hne n9 f0 f1 f2 f3 f5 g0 g1 g2 g3 g5 C1 C2
  go_wp2_with fail
  refine (C3.out _).mono ?_; rintro e w10 ⟨rfl, hb10⟩
  have L9 := Lib.hid (low_trans L0.out (low_trans hk9 hb10))
  go_wp2_with fail
  go_ret
  exact ⟨rfl, L9.out⟩
set_option maxHeartbeats 8000000 in
theorem crowds_any (v : Value) (l : List Pr) (w : World) (h : Peers w v l) (hok : ∀ x ∈ l, x.ok) (hl : l.length ≤ 1000000) :
    Calls Try.prog 45 #[v] w fun e w' => e = .returned (.map (some w.heap.size)) ∧ ∃ E : Gs, MapC w.heap.size w' E ∧ Hid (∀ n, valG E n = cntR l n) ∧ Below w.heap.size w w' := by
  have hmm := @run_makeMap Try.prog
  obtain ⟨A, c, rfl, hc, _, hcell⟩ := h
  have HC := Lib.hid hcell
  have HOK := Lib.hid hok
  clear hcell hok
  go_enter Try.func45, Try.ntmps45
  go_wp2_with fail
  go_loopw [9] (fun vi wr => ∃ (i : Nat) (E : Gs), vi = .int .i64 i ∧ i ≤ l.length ∧ Hid (MapC w.heap.size wr E) ∧ Hid (∀ n, valG E n = cntR (l.take i) n) ∧ Hid (Below w.heap.size w wr)) (fun vi _ => l.length - (intOf vi).toNat)
  case atStart => exact ⟨0, [], rfl, Nat.zero_le _, Lib.hid (MapC.new w), Lib.hid (fun n => rfl), Lib.hid (Lows.alloc (Lows.self _) _)⟩
  case round =>
    obtain ⟨i, E, rfl, hi, HM, HV, HL⟩ := hrel
    by_cases hli : i < l.length
    · have hliz : (i : Int) < (l.length : Int) := by omega
      obtain ⟨bb, o, rfl, hb, hcc⟩ := HC.out (by omega)
      obtain ⟨x, hx⟩ : ∃ x, x = l[i]! := ⟨_, rfl⟩
      have hxo : x.ok := by rw [hx, getElem!_pos l i hli]; exact HOK.out _ (List.getElem_mem _)
      have c0 : wr.cell? ⟨bb, o + i * 10, none⟩ = some (.bool x.e.a.v6) := peer_at HL.out hb hcc hli (j := 0) (by rw [← hx]; rfl)
      have c1 : wr.cell? ⟨bb, o + i * 10 + 1, none⟩ = some (.int .u64 x.e.a.hi) := peer_at HL.out hb hcc hli (j := 1) (by rw [← hx]; rfl)
      have c2 : wr.cell? ⟨bb, o + i * 10 + 2, none⟩ = some (.int .u64 x.e.a.lo) := peer_at HL.out hb hcc hli (j := 2) (by rw [← hx]; rfl)
      have c3 : wr.cell? ⟨bb, o + i * 10 + 3, none⟩ = some (.int .i64 x.e.n) := peer_at HL.out hb hcc hli (j := 3) (by rw [← hx]; rfl)
      have c4 : wr.cell? ⟨bb, o + i * 10 + 4, none⟩ = some (.bool x.i) := peer_at HL.out hb hcc hli (j := 4) (by rw [← hx]; rfl)
      have c5 : wr.cell? ⟨bb, o + i * 10 + 5, none⟩ = some (.int .i64 x.t) := peer_at HL.out hb hcc hli (j := 5) (by rw [← hx]; rfl)
      have c6 : wr.cell? ⟨bb, o + i * 10 + 6, none⟩ = some (.int .i64 x.c.p) := peer_at HL.out hb hcc hli (j := 6) (by rw [← hx]; rfl)
      have c7 : wr.cell? ⟨bb, o + i * 10 + 7, none⟩ = some (.int .i64 x.c.a) := peer_at HL.out hb hcc hli (j := 7) (by rw [← hx]; rfl)
      have c8 : wr.cell? ⟨bb, o + i * 10 + 8, none⟩ = some (.int .i64 x.g) := peer_at HL.out hb hcc hli (j := 8) (by rw [← hx]; rfl)
      have c9 : wr.cell? ⟨bb, o + i * 10 + 9, none⟩ = some (.int .i64 x.k) := peer_at HL.out hb hcc hli (j := 9) (by rw [← hx]; rfl)
      have KG := Lib.hid (fun W => groupOf_is x W hxo)
      have HV2 : Hid (∀ n, valG (putG E (gR x) (valG E (gR x) + 1)) n = cntR (l.take (i + 1)) n) := Lib.hid (by rw [hx]; exact valG_next HV.out hli)
      have hq1 : valG E (gR x) ≤ 1000000 := by
        rw [HV.out]
        have := cnt_le (l.take i) (gR x)
        rw [List.length_take] at this
        omega
      have HI : Hid (ixG E (gR x) < (openG E (gR x)).length) := Lib.hid (ixG_open E (gR x))
      have HK : Hid (∀ h : ixG E (gR x) < (openG E (gR x)).length, (openG E (gR x))[ixG E (gR x)].1 = gR x) := Lib.hid (fun h => by
        have e := ixG_same E (gR x)
        have k := ixG_at (E := openG E (gR x)) (n := gR x) (by rw [e]; exact h)
        simpa only [e] using k)
      have HE : Hid (valG (openG E (gR x)) (gR x) = valG E (gR x)) := Lib.hid (valG_open E (gR x) (gR x))
      have HP : Hid (putG E (gR x) (valG E (gR x) + 1) = (openG E (gR x)).set (ixG E (gR x)) (gR x, valG E (gR x) + 1)) := Lib.hid rfl
      clear hcc hb hx hxo
      generalize gR x = n at *
      have KM : Hid (∀ X, Lows wr X → Calls Try.prog 46 #[.agg #[.bool x.e.a.v6, .int .u64 x.e.a.hi, .int .u64 x.e.a.lo, .int .i64 x.e.n, .bool x.i, .int .i64 x.t, .int .i64 x.c.p, .int .i64 x.c.a, .int .i64 x.g, .int .i64 x.k]] X fun e w9 => e = .returned (.agg #[.bool n.a.v6, .int .u64 n.a.hi, .int .u64 n.a.lo, .int .i64 n.n]) ∧ ∃ w10 w11, (Instr.lookup 78 (.map (some w.heap.size)) (.agg #[.bool n.a.v6, .int .u64 n.a.hi, .int .u64 n.a.lo, .int .i64 n.n]) false).run Try.prog w9 = .ok (.int .i64 (valG E n : Int)) w9 ∧
          (Instr.mapEntry 78 (.map (some w.heap.size)) (.agg #[.bool n.a.v6, .int .u64 n.a.hi, .int .u64 n.a.lo, .int .i64 n.n])).run Try.prog w9 = .ok (.tuple #[.int .i64 (valG E n : Int), .int .i64 (ixG E n : Int)]) w10 ∧
          (Instr.lookup 78 (.map (some w.heap.size)) (.agg #[.bool n.a.v6, .int .u64 n.a.hi, .int .u64 n.a.lo, .int .i64 n.n]) false).run Try.prog w10 = .ok (.int .i64 (valG E n : Int)) w10 ∧
          (Instr.entryStore 78 (.map (some w.heap.size)) (.int .i64 (ixG E n : Int)) (.int .i64 ((valG E n : Int) + 1))).run Try.prog w10 = .ok () w11 ∧ Hid (MapC w.heap.size w11 (putG E n (valG E n + 1))) ∧ Hid (Below w.heap.size w w11)) := Lib.hid fun X hX => (KG.out X).mono fun e w9 ⟨he, hb9⟩ => by
        have hb8 := low_trans hX hb9
        have hM9 := HM.out.on hb8
        have hlk := lookup_run hM9 n
        obtain ⟨w10, hen, hM10, hbt10⟩ := entry_run hM9 n
        have hlk2 := lookup_run hM10 n
        rw [HE.out] at hlk2
        obtain ⟨w11, hst, hM11, hbt11⟩ := store_run hM10 HI.out (HK.out HI.out) (valG E n + 1)
        rw [← HP.out] at hM11
        refine ⟨he, w10, w11, hlk, hen, hlk2, hst, Lib.hid hM11, Lib.hid ?_⟩
        have s9 := (low_trans'' HL.out hb8).size
        have s10 := hbt10.size
        exact (low_trans'' HL.out hb8).trans ((hbt10.low (Nat.le_refl _) s9).trans (hbt11.low (Nat.le_refl _) (Nat.le_trans s9 s10)))
      clear KG HE HP HI HK
      generalize valG E n = q at *
      generalize ixG E n = ix at *
      have hqw : IntKind.i64.wrap ((q : Int) + 1) = (q : Int) + 1 := by rw [IntKind.wrap_i64]; omega
      go_wp2_with fail
      (go_region_with (first
        | (go_at_call 46; (with_reducible refine (KM.out _ ?_).mono ?_); (exact low_drewN (Lows.alloc (Lows.self _) _) 1); rintro e w9 ⟨rfl, w10, w11, hlk, hen, hlk2, hst, HM12, HL12⟩)))
      all_goals clear KM
      all_goals
        go_wp2_with fail
        go_roundw
        case rel => exact ⟨i + 1, _, by go_num, by omega, HM12, HV2, HL12⟩
        case measure => simp [intOf]; omega
    · have hliz : ¬ (i : Int) < (l.length : Int) := by omega
      have HF : Hid (∀ n, valG E n = cntR l n) := Lib.hid (fun n => by rw [HV.out n, show i = l.length by omega, cnt_done])
      go_wp2_with fail
      exact bodyPost_ret (v := .map (some w.heap.size)) (by simp [results, Try.results45, go_sem]) rfl ⟨rfl, E, HM.out, HF, HL.out⟩
abbrev SP (w : World) (b o : Nat) (x : Pr) (w' : World) : Prop := w'.cell? ⟨b, o, none⟩ = some (.bool x.e.a.v6) ∧ w'.cell? ⟨b, o + 1, none⟩ = some (.int .u64 x.e.a.hi) ∧ w'.cell? ⟨b, o + 2, none⟩ = some (.int .u64 x.e.a.lo) ∧ w'.cell? ⟨b, o + 3, none⟩ = some (.int .i64 x.e.n) ∧ w'.cell? ⟨b, o + 4, none⟩ = some (.bool x.i) ∧ w'.cell? ⟨b, o + 5, none⟩ = some (.int .i64 x.t) ∧ w'.cell? ⟨b, o + 6, none⟩ = some (.int .i64 x.c.p) ∧ w'.cell? ⟨b, o + 7, none⟩ = some (.int .i64 x.c.a) ∧ w'.cell? ⟨b, o + 8, none⟩ = some (.int .i64 x.g) ∧ w'.cell? ⟨b, o + 9, none⟩ = some (.int .i64 x.k) ∧ Below w.heap.size w w'
theorem SP.on {w : World} {b o : Nat} {x : Pr} {w1 w2 : World} (h : SP w b o x w1) (hb : b < w.heap.size) (k : Lows w1 w2) : SP w b o x w2 := by
  obtain ⟨h0, h1, h2, h3, h4, h5, h6, h7, h8, h9, hl⟩ := h
  have hb1 : b < w1.heap.size := Nat.lt_of_lt_of_le hb hl.size
  exact ⟨(k.cell (p := ⟨b, o, none⟩) hb1).trans h0, (k.cell (p := ⟨b, o + 1, none⟩) hb1).trans h1, (k.cell (p := ⟨b, o + 2, none⟩) hb1).trans h2, (k.cell (p := ⟨b, o + 3, none⟩) hb1).trans h3, (k.cell (p := ⟨b, o + 4, none⟩) hb1).trans h4, (k.cell (p := ⟨b, o + 5, none⟩) hb1).trans h5, (k.cell (p := ⟨b, o + 6, none⟩) hb1).trans h6, (k.cell (p := ⟨b, o + 7, none⟩) hb1).trans h7, (k.cell (p := ⟨b, o + 8, none⟩) hb1).trans h8, (k.cell (p := ⟨b, o + 9, none⟩) hb1).trans h9, low_trans'' hl k⟩
set_option maxHeartbeats 16000000 in
theorem pick_any (v : Value) (l : List Pr) (w : World) (h : Peers w v l) (hok : ∀ x ∈ l, x.ok) (hl : l.length ≤ 1000000) :
    Calls Try.prog 37 #[v] w fun e w' => e = .returned (.int .i64 (pickR l)) ∧ Below w.heap.size w w' := by
  have KC := Lib.hid (crowds_any v l w h hok hl)
  have HOK := Lib.hid hok
  obtain ⟨A, c, rfl, hc, _, hcell⟩ := h
  have HC := Lib.hid hcell
  clear hcell hok
  go_enter Try.func37, Try.ntmps37
  go_wp2_with fail
  refine KC.out.mono ?_; rintro e w1 ⟨rfl, E, hM, HV, hb1⟩
  have HM := Lib.hid hM
  have L1 := Lib.hid hb1
  clear hM hb1 KC
  go_wp2_with fail
  go_loopw [4, 5, 13] (fun vp vm vi wr => ∃ i : Nat, vi = .int .i64 i ∧ vp = .int .i64 (pickI l i) ∧ vm = .int .i64 (mostI l i : Int) ∧ i ≤ l.length ∧ Hid (Lows w1 wr)) (fun _ _ vi _ => l.length - (intOf vi).toNat)
  case atStart => exact ⟨0, rfl, rfl, rfl, Nat.zero_le _, Lib.hid (Lows.self _)⟩
  case round =>
    obtain ⟨i, rfl, rfl, rfl, hi, HL⟩ := hrel
    by_cases hli : i < l.length
    · have hliz : (i : Int) < (l.length : Int) := by omega
      obtain ⟨bb, o, rfl, hb, hcc⟩ := HC.out (by omega)
      have HLW : Hid (Below w.heap.size w wr) := Lib.hid (low_trans'' L1.out HL.out)
      have HXI : Hid (∀ p, p < l.length → (l[p]!).ok) := Lib.hid fun p hp => by rw [getElem!_pos l p hp]; exact HOK.out _ (List.getElem_mem _)
      have HR1 := Lib.hid (fun h => round_more (l := l) (i := i) hli h)
      have HR2 := Lib.hid (fun h => round_same (l := l) (i := i) hli h)
      obtain ⟨x, hx⟩ : ∃ x, x = l[i]! := ⟨_, rfl⟩
      have hxo : x.ok := by rw [hx]; exact HXI.out i hli
      have c0 : wr.cell? ⟨bb, o + i * 10, none⟩ = some (.bool x.e.a.v6) := peer_at HLW.out hb hcc hli (j := 0) (by rw [← hx]; rfl)
      have c1 : wr.cell? ⟨bb, o + i * 10 + 1, none⟩ = some (.int .u64 x.e.a.hi) := peer_at HLW.out hb hcc hli (j := 1) (by rw [← hx]; rfl)
      have c2 : wr.cell? ⟨bb, o + i * 10 + 2, none⟩ = some (.int .u64 x.e.a.lo) := peer_at HLW.out hb hcc hli (j := 2) (by rw [← hx]; rfl)
      have c3 : wr.cell? ⟨bb, o + i * 10 + 3, none⟩ = some (.int .i64 x.e.n) := peer_at HLW.out hb hcc hli (j := 3) (by rw [← hx]; rfl)
      have c4 : wr.cell? ⟨bb, o + i * 10 + 4, none⟩ = some (.bool x.i) := peer_at HLW.out hb hcc hli (j := 4) (by rw [← hx]; rfl)
      have c5 : wr.cell? ⟨bb, o + i * 10 + 5, none⟩ = some (.int .i64 x.t) := peer_at HLW.out hb hcc hli (j := 5) (by rw [← hx]; rfl)
      have c6 : wr.cell? ⟨bb, o + i * 10 + 6, none⟩ = some (.int .i64 x.c.p) := peer_at HLW.out hb hcc hli (j := 6) (by rw [← hx]; rfl)
      have c7 : wr.cell? ⟨bb, o + i * 10 + 7, none⟩ = some (.int .i64 x.c.a) := peer_at HLW.out hb hcc hli (j := 7) (by rw [← hx]; rfl)
      have c8 : wr.cell? ⟨bb, o + i * 10 + 8, none⟩ = some (.int .i64 x.g) := peer_at HLW.out hb hcc hli (j := 8) (by rw [← hx]; rfl)
      have c9 : wr.cell? ⟨bb, o + i * 10 + 9, none⟩ = some (.int .i64 x.k) := peer_at HLW.out hb hcc hli (j := 9) (by rw [← hx]; rfl)
      rw [← hx] at HR1 HR2
      have KG := Lib.hid (fun W => groupOf_is x W hxo)
      have HXO := Lib.hid hxo
      have HLK : Hid (∀ W, Lows w1 W → (Instr.lookup 78 (.map (some w.heap.size)) (netV (gR x)) false).run Try.prog W = .ok (.int .i64 (cntR l (gR x) : Int)) W) := Lib.hid fun W hW => by
        have h := lookup_run (HM.out.on hW) (gR x)
        rwa [HV.out] at h
      have HQ : Hid (cntR l (gR x) ≤ 1000000) := Lib.hid (Nat.le_trans (cnt_le _ _) hl)
      clear hx hxo
      generalize cntR l (gR x) = q at *
      generalize gR x = n at *
      generalize mostI l i = m at *
      generalize pickI l i = p1 at *
      go_wp2_with fail
      refine (KG.out _).mono ?_; rintro e w9 ⟨rfl, hb9⟩
      have hb8 := low_trans (Lows.alloc (Lows.self wr) (.cells #[.bool x.e.a.v6, .int .u64 x.e.a.hi, .int .u64 x.e.a.lo, .int .i64 x.e.n, .bool x.i, .int .i64 x.t, .int .i64 x.c.p, .int .i64 x.c.a, .int .i64 x.g, .int .i64 x.k] 41)) hb9
      have L9 : Hid (Lows w1 w9) := Lib.hid (low_trans HL.out hb8)
      have hlk := HLK.out w9 L9.out
      have OB := Lib.hid (Blk.on (Blk.new wr #[.bool x.e.a.v6, .int .u64 x.e.a.hi, .int .u64 x.e.a.lo, .int .i64 x.e.n, .bool x.i, .int .i64 x.t, .int .i64 x.c.p, .int .i64 x.c.a, .int .i64 x.g, .int .i64 x.k] 41) hb9)
      have HLW : Hid (Below w.heap.size w w9) := Lib.hid (low_trans'' HLW.out hb8)
      clear hb9 hb8 HLK KG HM c0 c1 c2 c3 c4 c5 c6 c7 c8 c9
      by_cases hm : m < q
      · have hmz : (m : Int) < (q : Int) := by omega
        have hmz2 : decide ((m : Int) < (q : Int)) = true := decide_eq_true hmz
        obtain ⟨e1, e2⟩ := HR1.out hm
        have E1 := Lib.hid e1
        have E2 := Lib.hid e2
        clear e1 e2
        clear hcc hb HR1 HR2
        have hne : Nonempty (Cls (Lows w9)) := ⟨⟨_, Lows.self _⟩⟩
        have f0 : ∀ nq : Cls (Lows w9), nq.w.cell? ⟨wr.heap.size, 0, none⟩ = some (.bool x.e.a.v6) := fun nq => Blk.in OB nq.h rfl
        have f1 : ∀ nq : Cls (Lows w9), nq.w.cell? ⟨wr.heap.size, 1, none⟩ = some (.int .u64 x.e.a.hi) := fun nq => Blk.in OB nq.h rfl
        have f2 : ∀ nq : Cls (Lows w9), nq.w.cell? ⟨wr.heap.size, 2, none⟩ = some (.int .u64 x.e.a.lo) := fun nq => Blk.in OB nq.h rfl
        have f3 : ∀ nq : Cls (Lows w9), nq.w.cell? ⟨wr.heap.size, 3, none⟩ = some (.int .i64 x.e.n) := fun nq => Blk.in OB nq.h rfl
        have f4 : ∀ nq : Cls (Lows w9), nq.w.cell? ⟨wr.heap.size, 4, none⟩ = some (.bool x.i) := fun nq => Blk.in OB nq.h rfl
        have f5 : ∀ nq : Cls (Lows w9), nq.w.cell? ⟨wr.heap.size, 5, none⟩ = some (.int .i64 x.t) := fun nq => Blk.in OB nq.h rfl
        have f6 : ∀ nq : Cls (Lows w9), nq.w.cell? ⟨wr.heap.size, 6, none⟩ = some (.int .i64 x.c.p) := fun nq => Blk.in OB nq.h rfl
        have f7 : ∀ nq : Cls (Lows w9), nq.w.cell? ⟨wr.heap.size, 7, none⟩ = some (.int .i64 x.c.a) := fun nq => Blk.in OB nq.h rfl
        have f8 : ∀ nq : Cls (Lows w9), nq.w.cell? ⟨wr.heap.size, 8, none⟩ = some (.int .i64 x.g) := fun nq => Blk.in OB nq.h rfl
        have f9 : ∀ nq : Cls (Lows w9), nq.w.cell? ⟨wr.heap.size, 9, none⟩ = some (.int .i64 x.k) := fun nq => Blk.in OB nq.h rfl
        go_wp2_with fail
        refine Cls.region (Lows w9) (by kernel_rfl) (by kernel_rfl) (low_drewN (Below.refl _ _) 1) ?_
        (try dsimp only [List.append])
        repeat (go_big_quiet_step (first | fail))
        refine wpQuiet_nil ?_
        intro n9
        have hk9 := n9.h
        generalize n9.w = w10 at hk9 ⊢
        clear hne n9 f0 f1 f2 f3 f4 f5 f6 f7 f8 f9
        go_wp2_with fail
        go_roundw
        case rel => exact ⟨i + 1, by go_num, by rw [E1.out], by rw [E2.out], by omega, Lib.hid (low_trans L9.out hk9)⟩
        case measure => simp [intOf]; omega
      · have hmz : ¬ (m : Int) < (q : Int) := by omega
        have hmz2 : decide ((m : Int) < (q : Int)) = false := decide_eq_false hmz
        have hmn : decide (m < q) = false := decide_eq_false hm
        obtain ⟨p, rfl, hpl, hy, hn⟩ := HR2.out hm
        have hplz : (p : Int) < (l.length : Int) := by omega
        obtain ⟨z, hz⟩ : ∃ z, z = l[p]! := ⟨_, rfl⟩
        rw [← hz] at hy hn
        have HY := Lib.hid (fun W => younger_any x z W HXO.out (by rw [hz]; exact HXI.out p hpl))
        have hdp : decide ((p : Int) < 0) = false := decide_eq_false (by omega)
        have hdl : decide ((l.length : Int) ≤ (p : Int)) = false := decide_eq_false (by omega)
        clear HR1 HR2
        by_cases hqm : q = m
        · have hqz : ((q : Int) == (m : Int)) = true := by rw [hqm]; simp
          cases hyb : youngR x z with
          | true =>
            rw [hyb] at HY
            obtain ⟨e1, e2⟩ := hy ⟨hqm, hyb⟩
            have E1 := Lib.hid e1
            have E2 := Lib.hid e2
            clear e1 e2
            clear hn hy hyb hqm hm
            have hne : Nonempty (Cls (Lows w9)) := ⟨⟨_, Lows.self _⟩⟩
            have f0 : ∀ nq : Cls (Lows w9), nq.w.cell? ⟨wr.heap.size, 0, none⟩ = some (.bool x.e.a.v6) := fun nq => Blk.in OB nq.h rfl
            have f1 : ∀ nq : Cls (Lows w9), nq.w.cell? ⟨wr.heap.size, 1, none⟩ = some (.int .u64 x.e.a.hi) := fun nq => Blk.in OB nq.h rfl
            have f2 : ∀ nq : Cls (Lows w9), nq.w.cell? ⟨wr.heap.size, 2, none⟩ = some (.int .u64 x.e.a.lo) := fun nq => Blk.in OB nq.h rfl
            have f3 : ∀ nq : Cls (Lows w9), nq.w.cell? ⟨wr.heap.size, 3, none⟩ = some (.int .i64 x.e.n) := fun nq => Blk.in OB nq.h rfl
            have f4 : ∀ nq : Cls (Lows w9), nq.w.cell? ⟨wr.heap.size, 4, none⟩ = some (.bool x.i) := fun nq => Blk.in OB nq.h rfl
            have f5 : ∀ nq : Cls (Lows w9), nq.w.cell? ⟨wr.heap.size, 5, none⟩ = some (.int .i64 x.t) := fun nq => Blk.in OB nq.h rfl
            have f6 : ∀ nq : Cls (Lows w9), nq.w.cell? ⟨wr.heap.size, 6, none⟩ = some (.int .i64 x.c.p) := fun nq => Blk.in OB nq.h rfl
            have f7 : ∀ nq : Cls (Lows w9), nq.w.cell? ⟨wr.heap.size, 7, none⟩ = some (.int .i64 x.c.a) := fun nq => Blk.in OB nq.h rfl
            have f8 : ∀ nq : Cls (Lows w9), nq.w.cell? ⟨wr.heap.size, 8, none⟩ = some (.int .i64 x.g) := fun nq => Blk.in OB nq.h rfl
            have f9 : ∀ nq : Cls (Lows w9), nq.w.cell? ⟨wr.heap.size, 9, none⟩ = some (.int .i64 x.k) := fun nq => Blk.in OB nq.h rfl
            have g0 : ∀ nq : Cls (Lows w9), nq.w.cell? ⟨bb, o + p * 10, none⟩ = some (.bool z.e.a.v6) := fun nq => by rw [hz]; exact peer_at (low_trans'' HLW.out nq.h) hb hcc hpl (j := 0) rfl
            have g1 : ∀ nq : Cls (Lows w9), nq.w.cell? ⟨bb, o + p * 10 + 1, none⟩ = some (.int .u64 z.e.a.hi) := fun nq => by rw [hz]; exact peer_at (low_trans'' HLW.out nq.h) hb hcc hpl (j := 1) rfl
            have g2 : ∀ nq : Cls (Lows w9), nq.w.cell? ⟨bb, o + p * 10 + 2, none⟩ = some (.int .u64 z.e.a.lo) := fun nq => by rw [hz]; exact peer_at (low_trans'' HLW.out nq.h) hb hcc hpl (j := 2) rfl
            have g3 : ∀ nq : Cls (Lows w9), nq.w.cell? ⟨bb, o + p * 10 + 3, none⟩ = some (.int .i64 z.e.n) := fun nq => by rw [hz]; exact peer_at (low_trans'' HLW.out nq.h) hb hcc hpl (j := 3) rfl
            have g4 : ∀ nq : Cls (Lows w9), nq.w.cell? ⟨bb, o + p * 10 + 4, none⟩ = some (.bool z.i) := fun nq => by rw [hz]; exact peer_at (low_trans'' HLW.out nq.h) hb hcc hpl (j := 4) rfl
            have g5 : ∀ nq : Cls (Lows w9), nq.w.cell? ⟨bb, o + p * 10 + 5, none⟩ = some (.int .i64 z.t) := fun nq => by rw [hz]; exact peer_at (low_trans'' HLW.out nq.h) hb hcc hpl (j := 5) rfl
            have g6 : ∀ nq : Cls (Lows w9), nq.w.cell? ⟨bb, o + p * 10 + 6, none⟩ = some (.int .i64 z.c.p) := fun nq => by rw [hz]; exact peer_at (low_trans'' HLW.out nq.h) hb hcc hpl (j := 6) rfl
            have g7 : ∀ nq : Cls (Lows w9), nq.w.cell? ⟨bb, o + p * 10 + 7, none⟩ = some (.int .i64 z.c.a) := fun nq => by rw [hz]; exact peer_at (low_trans'' HLW.out nq.h) hb hcc hpl (j := 7) rfl
            have g8 : ∀ nq : Cls (Lows w9), nq.w.cell? ⟨bb, o + p * 10 + 8, none⟩ = some (.int .i64 z.g) := fun nq => by rw [hz]; exact peer_at (low_trans'' HLW.out nq.h) hb hcc hpl (j := 8) rfl
            have g9 : ∀ nq : Cls (Lows w9), nq.w.cell? ⟨bb, o + p * 10 + 9, none⟩ = some (.int .i64 z.k) := fun nq => by rw [hz]; exact peer_at (low_trans'' HLW.out nq.h) hb hcc hpl (j := 9) rfl
            clear hcc hb hz
            go_wp2_with fail
            refine Cls.region (Lows w9) (by kernel_rfl) (by kernel_rfl) (low_drewN (Below.refl _ _) 1) ?_
            (try dsimp only [List.append])
            repeat (go_big_quiet_step (first | fail | (with_reducible exact Cls.call ((lows_call HY).out _ (Cls.h _)))))
            refine wpQuiet_nil ?_
            intro n9
            have hk9 := n9.h
            generalize n9.w = w10 at hk9 ⊢
            clear hne n9 f0 f1 f2 f3 f4 f5 f6 f7 f8 f9 g0 g1 g2 g3 g4 g5 g6 g7 g8 g9
            go_wp2_with fail
            go_roundw
            case rel => exact ⟨i + 1, by go_num, by rw [E1.out], by rw [E2.out], by omega, Lib.hid (low_trans L9.out hk9)⟩
            case measure => simp [intOf]; omega
          | false =>
            rw [hyb] at HY
            obtain ⟨e1, e2⟩ := hn (fun h => by rw [hyb] at h; exact Bool.noConfusion h.2)
            have E1 := Lib.hid e1
            have E2 := Lib.hid e2
            clear e1 e2
            clear hn hy hyb hm
            have hne : Nonempty (Cls (Lows w9)) := ⟨⟨_, Lows.self _⟩⟩
            have f0 : ∀ nq : Cls (Lows w9), nq.w.cell? ⟨wr.heap.size, 0, none⟩ = some (.bool x.e.a.v6) := fun nq => Blk.in OB nq.h rfl
            have f1 : ∀ nq : Cls (Lows w9), nq.w.cell? ⟨wr.heap.size, 1, none⟩ = some (.int .u64 x.e.a.hi) := fun nq => Blk.in OB nq.h rfl
            have f2 : ∀ nq : Cls (Lows w9), nq.w.cell? ⟨wr.heap.size, 2, none⟩ = some (.int .u64 x.e.a.lo) := fun nq => Blk.in OB nq.h rfl
            have f3 : ∀ nq : Cls (Lows w9), nq.w.cell? ⟨wr.heap.size, 3, none⟩ = some (.int .i64 x.e.n) := fun nq => Blk.in OB nq.h rfl
            have f4 : ∀ nq : Cls (Lows w9), nq.w.cell? ⟨wr.heap.size, 4, none⟩ = some (.bool x.i) := fun nq => Blk.in OB nq.h rfl
            have f5 : ∀ nq : Cls (Lows w9), nq.w.cell? ⟨wr.heap.size, 5, none⟩ = some (.int .i64 x.t) := fun nq => Blk.in OB nq.h rfl
            have f6 : ∀ nq : Cls (Lows w9), nq.w.cell? ⟨wr.heap.size, 6, none⟩ = some (.int .i64 x.c.p) := fun nq => Blk.in OB nq.h rfl
            have f7 : ∀ nq : Cls (Lows w9), nq.w.cell? ⟨wr.heap.size, 7, none⟩ = some (.int .i64 x.c.a) := fun nq => Blk.in OB nq.h rfl
            have f8 : ∀ nq : Cls (Lows w9), nq.w.cell? ⟨wr.heap.size, 8, none⟩ = some (.int .i64 x.g) := fun nq => Blk.in OB nq.h rfl
            have f9 : ∀ nq : Cls (Lows w9), nq.w.cell? ⟨wr.heap.size, 9, none⟩ = some (.int .i64 x.k) := fun nq => Blk.in OB nq.h rfl
            have g0 : ∀ nq : Cls (Lows w9), nq.w.cell? ⟨bb, o + p * 10, none⟩ = some (.bool z.e.a.v6) := fun nq => by rw [hz]; exact peer_at (low_trans'' HLW.out nq.h) hb hcc hpl (j := 0) rfl
            have g1 : ∀ nq : Cls (Lows w9), nq.w.cell? ⟨bb, o + p * 10 + 1, none⟩ = some (.int .u64 z.e.a.hi) := fun nq => by rw [hz]; exact peer_at (low_trans'' HLW.out nq.h) hb hcc hpl (j := 1) rfl
            have g2 : ∀ nq : Cls (Lows w9), nq.w.cell? ⟨bb, o + p * 10 + 2, none⟩ = some (.int .u64 z.e.a.lo) := fun nq => by rw [hz]; exact peer_at (low_trans'' HLW.out nq.h) hb hcc hpl (j := 2) rfl
            have g3 : ∀ nq : Cls (Lows w9), nq.w.cell? ⟨bb, o + p * 10 + 3, none⟩ = some (.int .i64 z.e.n) := fun nq => by rw [hz]; exact peer_at (low_trans'' HLW.out nq.h) hb hcc hpl (j := 3) rfl
            have g4 : ∀ nq : Cls (Lows w9), nq.w.cell? ⟨bb, o + p * 10 + 4, none⟩ = some (.bool z.i) := fun nq => by rw [hz]; exact peer_at (low_trans'' HLW.out nq.h) hb hcc hpl (j := 4) rfl
            have g5 : ∀ nq : Cls (Lows w9), nq.w.cell? ⟨bb, o + p * 10 + 5, none⟩ = some (.int .i64 z.t) := fun nq => by rw [hz]; exact peer_at (low_trans'' HLW.out nq.h) hb hcc hpl (j := 5) rfl
            have g6 : ∀ nq : Cls (Lows w9), nq.w.cell? ⟨bb, o + p * 10 + 6, none⟩ = some (.int .i64 z.c.p) := fun nq => by rw [hz]; exact peer_at (low_trans'' HLW.out nq.h) hb hcc hpl (j := 6) rfl
            have g7 : ∀ nq : Cls (Lows w9), nq.w.cell? ⟨bb, o + p * 10 + 7, none⟩ = some (.int .i64 z.c.a) := fun nq => by rw [hz]; exact peer_at (low_trans'' HLW.out nq.h) hb hcc hpl (j := 7) rfl
            have g8 : ∀ nq : Cls (Lows w9), nq.w.cell? ⟨bb, o + p * 10 + 8, none⟩ = some (.int .i64 z.g) := fun nq => by rw [hz]; exact peer_at (low_trans'' HLW.out nq.h) hb hcc hpl (j := 8) rfl
            have g9 : ∀ nq : Cls (Lows w9), nq.w.cell? ⟨bb, o + p * 10 + 9, none⟩ = some (.int .i64 z.k) := fun nq => by rw [hz]; exact peer_at (low_trans'' HLW.out nq.h) hb hcc hpl (j := 9) rfl
            clear hcc hb hz
            go_wp2_with fail
            refine Cls.region (Lows w9) (by kernel_rfl) (by kernel_rfl) (low_drewN (Below.refl _ _) 1) ?_
            (try dsimp only [List.append])
            repeat (go_big_quiet_step (first | fail | (with_reducible exact Cls.call ((lows_call HY).out _ (Cls.h _)))))
            refine wpQuiet_nil ?_
            intro n9
            have hk9 := n9.h
            generalize n9.w = w10 at hk9 ⊢
            clear hne n9 f0 f1 f2 f3 f4 f5 f6 f7 f8 f9 g0 g1 g2 g3 g4 g5 g6 g7 g8 g9
            go_wp2_with fail
            go_roundw
            case rel => exact ⟨i + 1, by go_num, by rw [E1.out], by rw [E2.out], by omega, Lib.hid (low_trans L9.out hk9)⟩
            case measure => simp [intOf]; omega
        · have hqz : ((q : Int) == (m : Int)) = false := by rw [beq_eq_false_iff_ne]; omega
          obtain ⟨e1, e2⟩ := hn (fun h => hqm h.1)
          have E1 := Lib.hid e1
          have E2 := Lib.hid e2
          clear e1 e2
          clear hn hy hm HY hcc hb hz
          have hne : Nonempty (Cls (Lows w9)) := ⟨⟨_, Lows.self _⟩⟩
          have f0 : ∀ nq : Cls (Lows w9), nq.w.cell? ⟨wr.heap.size, 0, none⟩ = some (.bool x.e.a.v6) := fun nq => Blk.in OB nq.h rfl
          have f1 : ∀ nq : Cls (Lows w9), nq.w.cell? ⟨wr.heap.size, 1, none⟩ = some (.int .u64 x.e.a.hi) := fun nq => Blk.in OB nq.h rfl
          have f2 : ∀ nq : Cls (Lows w9), nq.w.cell? ⟨wr.heap.size, 2, none⟩ = some (.int .u64 x.e.a.lo) := fun nq => Blk.in OB nq.h rfl
          have f3 : ∀ nq : Cls (Lows w9), nq.w.cell? ⟨wr.heap.size, 3, none⟩ = some (.int .i64 x.e.n) := fun nq => Blk.in OB nq.h rfl
          have f4 : ∀ nq : Cls (Lows w9), nq.w.cell? ⟨wr.heap.size, 4, none⟩ = some (.bool x.i) := fun nq => Blk.in OB nq.h rfl
          have f5 : ∀ nq : Cls (Lows w9), nq.w.cell? ⟨wr.heap.size, 5, none⟩ = some (.int .i64 x.t) := fun nq => Blk.in OB nq.h rfl
          have f6 : ∀ nq : Cls (Lows w9), nq.w.cell? ⟨wr.heap.size, 6, none⟩ = some (.int .i64 x.c.p) := fun nq => Blk.in OB nq.h rfl
          have f7 : ∀ nq : Cls (Lows w9), nq.w.cell? ⟨wr.heap.size, 7, none⟩ = some (.int .i64 x.c.a) := fun nq => Blk.in OB nq.h rfl
          have f8 : ∀ nq : Cls (Lows w9), nq.w.cell? ⟨wr.heap.size, 8, none⟩ = some (.int .i64 x.g) := fun nq => Blk.in OB nq.h rfl
          have f9 : ∀ nq : Cls (Lows w9), nq.w.cell? ⟨wr.heap.size, 9, none⟩ = some (.int .i64 x.k) := fun nq => Blk.in OB nq.h rfl
          go_wp2_with fail
          refine Cls.region (Lows w9) (by kernel_rfl) (by kernel_rfl) (low_drewN (Below.refl _ _) 1) ?_
          (try dsimp only [List.append])
          repeat (go_big_quiet_step (first | fail))
          refine wpQuiet_nil ?_
          intro n9
          have hk9 := n9.h
          generalize n9.w = w10 at hk9 ⊢
          clear hne n9 f0 f1 f2 f3 f4 f5 f6 f7 f8 f9
          go_wp2_with fail
          go_roundw
          case rel => exact ⟨i + 1, by go_num, by rw [E1.out], by rw [E2.out], by omega, Lib.hid (low_trans L9.out hk9)⟩
          case measure => simp [intOf]; omega
    · have hliz : ¬ (i : Int) < (l.length : Int) := by omega
      have e : pickI l i = pickR l := by rw [show i = l.length by omega, pickI_done]
      rw [e]
      go_wp2_with fail
      go_ret
      exact ⟨rfl, low_trans'' L1.out HL.out⟩
end Go.Proofs.Ythmcggbmeabpmaa.Cw
/- The document's answers for layer 20 (crowd), walked. -/
namespace Go.Proofs.Ythmcggbmeabpmaa.Cw
set_option maxRecDepth 100000
open Go.ChangeShapes Go.WideShapes Go.ChangeAt Go.RowKit
open Dec Words V4 V6 Ad Ci En Sat Ha Pe Stb Gr Mi Ra Go.Deep
set_option linter.unusedVariables false
set_option maxHeartbeats 8000000 in
theorem ryounger_any (x y : Pr) (w : World) (hx : x.ok) (hy : y.ok) : Calls Try.prog 50 #[.agg #[.bool x.e.a.v6, .int .u64 x.e.a.hi, .int .u64 x.e.a.lo, .int .i64 x.e.n, .bool x.i, .int .i64 x.t, .int .i64 x.c.p, .int .i64 x.c.a, .int .i64 x.g, .int .i64 x.k], .agg #[.bool y.e.a.v6, .int .u64 y.e.a.hi, .int .u64 y.e.a.lo, .int .i64 y.e.n, .bool y.i, .int .i64 y.t, .int .i64 y.c.p, .int .i64 y.c.a, .int .i64 y.g, .int .i64 y.k]] w fun e w' => e = .returned (.bool (youngR x y)) ∧ Below w.heap.size w w' := by
  have C2 := Lib.hid (fun W => rcompareE_any x.e y.e W hx.1 hy.1)
  have O1 := Lib.hid ((Blk.new w #[.bool x.e.a.v6, .int .u64 x.e.a.hi, .int .u64 x.e.a.lo, .int .i64 x.e.n, .bool x.i, .int .i64 x.t, .int .i64 x.c.p, .int .i64 x.c.a, .int .i64 x.g, .int .i64 x.k] 41).alloc (.cells #[.bool y.e.a.v6, .int .u64 y.e.a.hi, .int .u64 y.e.a.lo, .int .i64 y.e.n, .bool y.i, .int .i64 y.t, .int .i64 y.c.p, .int .i64 y.c.a, .int .i64 y.g, .int .i64 y.k] 41))
  have O2 := Lib.hid (Blk.two w (.cells #[.bool x.e.a.v6, .int .u64 x.e.a.hi, .int .u64 x.e.a.lo, .int .i64 x.e.n, .bool x.i, .int .i64 x.t, .int .i64 x.c.p, .int .i64 x.c.a, .int .i64 x.g, .int .i64 x.k] 41) #[.bool y.e.a.v6, .int .u64 y.e.a.hi, .int .u64 y.e.a.lo, .int .i64 y.e.n, .bool y.i, .int .i64 y.t, .int .i64 y.c.p, .int .i64 y.c.a, .int .i64 y.g, .int .i64 y.k] 41)
  have L0 : Hid (Lows w ((w.alloc (.cells #[.bool x.e.a.v6, .int .u64 x.e.a.hi, .int .u64 x.e.a.lo, .int .i64 x.e.n, .bool x.i, .int .i64 x.t, .int .i64 x.c.p, .int .i64 x.c.a, .int .i64 x.g, .int .i64 x.k] 41)).alloc (.cells #[.bool y.e.a.v6, .int .u64 y.e.a.hi, .int .u64 y.e.a.lo, .int .i64 y.e.n, .bool y.i, .int .i64 y.t, .int .i64 y.c.p, .int .i64 y.c.a, .int .i64 y.g, .int .i64 y.k] 41))) := Lib.hid (Lows.alloc (Lows.alloc (Lows.self _) _) _)
  by_cases ht : x.t = y.t
  · rw [young_same ht]
    have hz : (x.t != y.t) = false := by rw [bne_eq_false_iff_eq]; exact ht
    have hz2 : (y.t != y.t) = false := by rw [bne_eq_false_iff_eq]
    generalize cmpE x.e y.e = r at *
    clear hx hy ht
    go_enter Try.func50, Try.ntmps50
    go_wp2_with fail
    refine (C2.out _).mono ?_; rintro e w1 ⟨rfl, hb1⟩
    go_wp2_with fail
    go_ret
    exact ⟨rfl, low_trans L0.out hb1⟩
  · rw [young_other ht]
    have hz : (x.t != y.t) = true := by rw [bne_iff_ne]; exact ht
    clear hx hy C2
    go_enter Try.func50, Try.ntmps50
    go_wp2_with fail
    go_ret
    exact ⟨rfl, L0.out⟩
set_option maxHeartbeats 8000000 in
theorem rcrowd_any (v : Value) (l : List Pr) (i : Int) (w : World) (h : Peers w v l) (hok : ∀ x ∈ l, x.ok) (hl : l.length ≤ 1000000) :
    Calls Try.prog 49 #[v, .int .i64 i] w fun e w' => e = .returned (.int .i64 (crowdR l i)) ∧ Below w.heap.size w w' := by
  by_cases h0 : i < 0
  · rw [crowd_off (Or.inl h0)]
    obtain ⟨A, c, rfl, hc, _, _⟩ := h
    go_enter Try.func49, Try.ntmps49
    go_wp2_with fail
    go_ret
    exact ⟨rfl, Below.refl _ _⟩
  · by_cases h1 : (l.length : Int) ≤ i
    · rw [crowd_off (Or.inr h1)]
      obtain ⟨A, c, rfl, hc, _, _⟩ := h
      go_enter Try.func49, Try.ntmps49
      go_wp2_with fail
      go_ret
      exact ⟨rfl, Below.refl _ _⟩
    · obtain ⟨p, rfl⟩ : ∃ k : Nat, i = (k : Int) := ⟨i.toNat, by omega⟩
      have hp : p < l.length := by omega
      have hpz : (p : Int) < (l.length : Int) := by omega
      rw [crowd_at hp]
      obtain ⟨A, c, rfl, hc, _, hcell⟩ := h
      have HC := Lib.hid hcell
      have HXI : Hid (∀ p, p < l.length → (l[p]!).ok) := Lib.hid fun p hp => by rw [getElem!_pos l p hp]; exact hok _ (List.getElem_mem _)
      obtain ⟨x, hx⟩ : ∃ x, x = l[p]! := ⟨_, rfl⟩
      have HX := Lib.hid hx
      rw [← hx]
      have C2 := Lib.hid (fun W => rgroupOf_any x.e.a W (by have h := HXI.out p hp; rw [← hx] at h; exact h.1.1))
      clear hcell hok hx
      go_enter Try.func49, Try.ntmps49
      go_wp2_with fail
      go_loopw [5, 6] (fun vn vk wr => ∃ k : Nat, vk = .int .i64 k ∧ vn = .int .i64 (cntR (l.take k) (gR x) : Int) ∧ k ≤ l.length ∧ Hid (Below w.heap.size w wr)) (fun _ vk _ => l.length - (intOf vk).toNat)
      case atStart => exact ⟨0, rfl, rfl, Nat.zero_le _, Lib.hid (Below.refl _ _)⟩
      case round =>
        obtain ⟨k, rfl, rfl, hk, HL⟩ := hrel
        by_cases hlk : k < l.length
        · have hlkz : (k : Int) < (l.length : Int) := by omega
          obtain ⟨bb, o, rfl, hb, hcc⟩ := HC.out (by omega)
          obtain ⟨z, hz⟩ : ∃ z, z = l[k]! := ⟨_, rfl⟩
          have C1 := Lib.hid (fun W => rgroupOf_any z.e.a W (by have h := HXI.out k hlk; rw [← hz] at h; exact h.1.1))
          have HN := cnt_next hlk (gR x)
          rw [← hz] at HN
          have hq : cntR (l.take k) (gR x) ≤ 1000000 := by
            have := cnt_le (l.take k) (gR x)
            rw [List.length_take] at this
            omega
          have EQ := fun W => eqNet (gR z) (gR x) W
          have hne : Nonempty (Cls (Lows wr)) := ⟨⟨_, Lows.self _⟩⟩
          have f0 : ∀ nq : Cls (Lows wr), nq.w.cell? ⟨bb, o + k * 10, none⟩ = some (.bool z.e.a.v6) := fun nq => by rw [hz]; exact peer_at (low_trans'' HL.out nq.h) hb hcc hlk (j := 0) rfl
          have f1 : ∀ nq : Cls (Lows wr), nq.w.cell? ⟨bb, o + k * 10 + 1, none⟩ = some (.int .u64 z.e.a.hi) := fun nq => by rw [hz]; exact peer_at (low_trans'' HL.out nq.h) hb hcc hlk (j := 1) rfl
          have f2 : ∀ nq : Cls (Lows wr), nq.w.cell? ⟨bb, o + k * 10 + 2, none⟩ = some (.int .u64 z.e.a.lo) := fun nq => by rw [hz]; exact peer_at (low_trans'' HL.out nq.h) hb hcc hlk (j := 2) rfl
          have g0 : ∀ nq : Cls (Lows wr), nq.w.cell? ⟨bb, o + p * 10, none⟩ = some (.bool x.e.a.v6) := fun nq => by rw [HX.out]; exact peer_at (low_trans'' HL.out nq.h) hb hcc hp (j := 0) rfl
          have g1 : ∀ nq : Cls (Lows wr), nq.w.cell? ⟨bb, o + p * 10 + 1, none⟩ = some (.int .u64 x.e.a.hi) := fun nq => by rw [HX.out]; exact peer_at (low_trans'' HL.out nq.h) hb hcc hp (j := 1) rfl
          have g2 : ∀ nq : Cls (Lows wr), nq.w.cell? ⟨bb, o + p * 10 + 2, none⟩ = some (.int .u64 x.e.a.lo) := fun nq => by rw [HX.out]; exact peer_at (low_trans'' HL.out nq.h) hb hcc hp (j := 2) rfl
          clear hcc hb hz
          unfold gR at EQ HN hq
          unfold gR
          cases hs : sameN (groupN z.e.a) (groupN x.e.a) with
          | true =>
            rw [hs] at EQ
            rw [hs, if_pos rfl] at HN
            have HN2 := Lib.hid HN
            clear HN hs
            generalize cntR (l.take k) (groupN x.e.a) = q at *
            generalize groupN z.e.a = gz at *
            go_wp2_with fail
            refine Cls.region (Lows wr) (by kernel_rfl) (by kernel_rfl) (low_drewN (Below.refl _ _) 1) ?_
            (try dsimp only [List.append])
            repeat (go_big_quiet_step (first | fail | (with_reducible exact Cls.call ((lows_call C1).out _ (Cls.h _))) | (with_reducible exact Cls.call ((lows_call C2).out _ (Cls.h _)))))
            refine wpQuiet_nil ?_
            intro n9
            have hk9 := n9.h
            generalize n9.w = w9 at hk9 ⊢
            clear hne n9 f0 f1 f2 g0 g1 g2
            go_wp2_with fail
            go_roundw
            case rel => exact ⟨k + 1, by go_num, by first | exact congrArg (fun q : Nat => Value.int .i64 (q : Int)) HN2.out.symm | (rw [HN2.out]; go_num), by omega, Lib.hid (low_trans'' HL.out hk9)⟩
            case measure => simp [intOf]; omega
          | false =>
            rw [hs] at EQ
            rw [hs, if_neg (by simp)] at HN
            have HN2 := Lib.hid HN
            clear HN hs
            generalize cntR (l.take k) (groupN x.e.a) = q at *
            generalize groupN z.e.a = gz at *
            go_wp2_with fail
            refine Cls.region (Lows wr) (by kernel_rfl) (by kernel_rfl) (low_drewN (Below.refl _ _) 1) ?_
            (try dsimp only [List.append])
            repeat (go_big_quiet_step (first | fail | (with_reducible exact Cls.call ((lows_call C1).out _ (Cls.h _))) | (with_reducible exact Cls.call ((lows_call C2).out _ (Cls.h _)))))
            refine wpQuiet_nil ?_
            intro n9
            have hk9 := n9.h
            generalize n9.w = w9 at hk9 ⊢
            clear hne n9 f0 f1 f2 g0 g1 g2
            go_wp2_with fail
            go_roundw
            case rel => exact ⟨k + 1, by go_num, by rw [HN2.out]; rfl, by omega, Lib.hid (low_trans'' HL.out hk9)⟩
            case measure => simp [intOf]; omega
        · have hlkz : ¬ (k : Int) < (l.length : Int) := by omega
          have e : cntR (l.take k) (gR x) = cntR l (gR x) := by rw [show k = l.length by omega, cnt_done]
          rw [e]
          go_wp2_with fail
          go_ret
          exact ⟨rfl, HL.out⟩
set_option maxHeartbeats 16000000 in
theorem rpick_any (v : Value) (l : List Pr) (w : World) (h : Peers w v l) (hok : ∀ x ∈ l, x.ok) (hl : l.length ≤ 1000000) :
    Calls Try.prog 39 #[v] w fun e w' => e = .returned (.int .i64 (pickR l)) ∧ Below w.heap.size w w' := by
  have PW := Lib.hid h
  have HXI : Hid (∀ p, p < l.length → (l[p]!).ok) := Lib.hid fun p hp => by rw [getElem!_pos l p hp]; exact hok _ (List.getElem_mem _)
  have KC0 := Lib.hid (fun (W : World) (i : Int) (hW : Below w.heap.size w W) => rcrowd_any v l i W (h.below hW) hok hl)
  obtain ⟨A, c, rfl, hc, _, hcell⟩ := h
  have HC := Lib.hid hcell
  clear hcell hok
  go_enter Try.func39, Try.ntmps39
  go_wp2_with fail
  go_loopw [3] (fun vi wr => ∃ i : Nat, vi = .int .i64 i ∧ i ≤ l.length ∧ Hid (0 < l.length → i ≤ bestR l (l.length - 1)) ∧ Hid (Below w.heap.size w wr)) (fun vi _ => l.length - (intOf vi).toNat)
  case atStart => exact ⟨0, rfl, Nat.zero_le _, Lib.hid (fun _ => Nat.zero_le _), Lib.hid (Below.refl _ _)⟩
  case round =>
    obtain ⟨i, rfl, hi, HB0, HL0⟩ := hrel
    by_cases hli : i < l.length
    · have hliz : (i : Int) < (l.length : Int) := by omega
      go_wp2_with fail
      go_loopw [4, 5] (fun vb vk wr => ∃ k : Nat, vk = .int .i64 k ∧ vb = .bool (bestB l i k) ∧ k ≤ l.length ∧ Hid (Below w.heap.size w wr)) (fun _ vk _ => l.length - (intOf vk).toNat)
      case atStart => exact ⟨0, rfl, by rw [bestB_zero], Nat.zero_le _, HL0⟩
      case round =>
        obtain ⟨k, rfl, rfl, hk, HL⟩ := hrel
        by_cases hlk : k < l.length
        · have hlkz : (k : Int) < (l.length : Int) := by omega
          obtain ⟨bb, o, rfl, hb, hcc⟩ := HC.out (by omega)
          obtain ⟨z, hz⟩ : ∃ z, z = l[k]! := ⟨_, rfl⟩
          obtain ⟨x, hx⟩ : ∃ x, x = l[i]! := ⟨_, rfl⟩
          have HN := bestB_next l i k
          rw [← hz, ← hx, not_beats] at HN
          have KX := Lib.hid (fun (W : World) (hW : Below w.heap.size w W) => KC0.out W (k : Int) hW)
          have KY := Lib.hid (fun (W : World) (hW : Below w.heap.size w W) => KC0.out W (i : Int) hW)
          rw [crowd_at hlk, ← hz] at KX
          rw [crowd_at hli, ← hx] at KY
          have HY := Lib.hid (fun W => ryounger_any z x W (by rw [hz]; exact HXI.out k hlk) (by rw [hx]; exact HXI.out i hli))
          have hq1 : cntR l (gR z) ≤ 1000000 := Nat.le_trans (cnt_le _ _) hl
          have hq2 : cntR l (gR x) ≤ 1000000 := Nat.le_trans (cnt_le _ _) hl
          generalize cntR l (gR z) = q1 at *
          generalize cntR l (gR x) = q2 at *
          generalize bestB l i k = b at *
          go_wp2_with fail
          refine (KX.out _ HL.out).mono ?_; rintro e w8 ⟨rfl, hb8⟩
          have HL8 : Hid (Below w.heap.size w w8) := Lib.hid (low_trans'' HL.out hb8)
          clear hb8
          go_wp2_with fail
          refine (KY.out _ HL8.out).mono ?_; rintro e w9 ⟨rfl, hb9⟩
          have HLW : Hid (Below w.heap.size w w9) := Lib.hid (low_trans'' HL8.out hb9)
          clear hb9 KX KY HL8
          have hne : Nonempty (Cls (Lows w9)) := ⟨⟨_, Lows.self _⟩⟩
          have f0 : ∀ nq : Cls (Lows w9), nq.w.cell? ⟨bb, o + k * 10, none⟩ = some (.bool z.e.a.v6) := fun nq => by rw [hz]; exact peer_at (low_trans'' HLW.out nq.h) hb hcc hlk (j := 0) rfl
          have f1 : ∀ nq : Cls (Lows w9), nq.w.cell? ⟨bb, o + k * 10 + 1, none⟩ = some (.int .u64 z.e.a.hi) := fun nq => by rw [hz]; exact peer_at (low_trans'' HLW.out nq.h) hb hcc hlk (j := 1) rfl
          have f2 : ∀ nq : Cls (Lows w9), nq.w.cell? ⟨bb, o + k * 10 + 2, none⟩ = some (.int .u64 z.e.a.lo) := fun nq => by rw [hz]; exact peer_at (low_trans'' HLW.out nq.h) hb hcc hlk (j := 2) rfl
          have f3 : ∀ nq : Cls (Lows w9), nq.w.cell? ⟨bb, o + k * 10 + 3, none⟩ = some (.int .i64 z.e.n) := fun nq => by rw [hz]; exact peer_at (low_trans'' HLW.out nq.h) hb hcc hlk (j := 3) rfl
          have f4 : ∀ nq : Cls (Lows w9), nq.w.cell? ⟨bb, o + k * 10 + 4, none⟩ = some (.bool z.i) := fun nq => by rw [hz]; exact peer_at (low_trans'' HLW.out nq.h) hb hcc hlk (j := 4) rfl
          have f5 : ∀ nq : Cls (Lows w9), nq.w.cell? ⟨bb, o + k * 10 + 5, none⟩ = some (.int .i64 z.t) := fun nq => by rw [hz]; exact peer_at (low_trans'' HLW.out nq.h) hb hcc hlk (j := 5) rfl
          have f6 : ∀ nq : Cls (Lows w9), nq.w.cell? ⟨bb, o + k * 10 + 6, none⟩ = some (.int .i64 z.c.p) := fun nq => by rw [hz]; exact peer_at (low_trans'' HLW.out nq.h) hb hcc hlk (j := 6) rfl
          have f7 : ∀ nq : Cls (Lows w9), nq.w.cell? ⟨bb, o + k * 10 + 7, none⟩ = some (.int .i64 z.c.a) := fun nq => by rw [hz]; exact peer_at (low_trans'' HLW.out nq.h) hb hcc hlk (j := 7) rfl
          have f8 : ∀ nq : Cls (Lows w9), nq.w.cell? ⟨bb, o + k * 10 + 8, none⟩ = some (.int .i64 z.g) := fun nq => by rw [hz]; exact peer_at (low_trans'' HLW.out nq.h) hb hcc hlk (j := 8) rfl
          have f9 : ∀ nq : Cls (Lows w9), nq.w.cell? ⟨bb, o + k * 10 + 9, none⟩ = some (.int .i64 z.k) := fun nq => by rw [hz]; exact peer_at (low_trans'' HLW.out nq.h) hb hcc hlk (j := 9) rfl
          have g0 : ∀ nq : Cls (Lows w9), nq.w.cell? ⟨bb, o + i * 10, none⟩ = some (.bool x.e.a.v6) := fun nq => by rw [hx]; exact peer_at (low_trans'' HLW.out nq.h) hb hcc hli (j := 0) rfl
          have g1 : ∀ nq : Cls (Lows w9), nq.w.cell? ⟨bb, o + i * 10 + 1, none⟩ = some (.int .u64 x.e.a.hi) := fun nq => by rw [hx]; exact peer_at (low_trans'' HLW.out nq.h) hb hcc hli (j := 1) rfl
          have g2 : ∀ nq : Cls (Lows w9), nq.w.cell? ⟨bb, o + i * 10 + 2, none⟩ = some (.int .u64 x.e.a.lo) := fun nq => by rw [hx]; exact peer_at (low_trans'' HLW.out nq.h) hb hcc hli (j := 2) rfl
          have g3 : ∀ nq : Cls (Lows w9), nq.w.cell? ⟨bb, o + i * 10 + 3, none⟩ = some (.int .i64 x.e.n) := fun nq => by rw [hx]; exact peer_at (low_trans'' HLW.out nq.h) hb hcc hli (j := 3) rfl
          have g4 : ∀ nq : Cls (Lows w9), nq.w.cell? ⟨bb, o + i * 10 + 4, none⟩ = some (.bool x.i) := fun nq => by rw [hx]; exact peer_at (low_trans'' HLW.out nq.h) hb hcc hli (j := 4) rfl
          have g5 : ∀ nq : Cls (Lows w9), nq.w.cell? ⟨bb, o + i * 10 + 5, none⟩ = some (.int .i64 x.t) := fun nq => by rw [hx]; exact peer_at (low_trans'' HLW.out nq.h) hb hcc hli (j := 5) rfl
          have g6 : ∀ nq : Cls (Lows w9), nq.w.cell? ⟨bb, o + i * 10 + 6, none⟩ = some (.int .i64 x.c.p) := fun nq => by rw [hx]; exact peer_at (low_trans'' HLW.out nq.h) hb hcc hli (j := 6) rfl
          have g7 : ∀ nq : Cls (Lows w9), nq.w.cell? ⟨bb, o + i * 10 + 7, none⟩ = some (.int .i64 x.c.a) := fun nq => by rw [hx]; exact peer_at (low_trans'' HLW.out nq.h) hb hcc hli (j := 7) rfl
          have g8 : ∀ nq : Cls (Lows w9), nq.w.cell? ⟨bb, o + i * 10 + 8, none⟩ = some (.int .i64 x.g) := fun nq => by rw [hx]; exact peer_at (low_trans'' HLW.out nq.h) hb hcc hli (j := 8) rfl
          have g9 : ∀ nq : Cls (Lows w9), nq.w.cell? ⟨bb, o + i * 10 + 9, none⟩ = some (.int .i64 x.k) := fun nq => by rw [hx]; exact peer_at (low_trans'' HLW.out nq.h) hb hcc hli (j := 9) rfl
          clear hcc hb hz hx
          cases b with
          | false =>
            have HB : Hid (bestB l i (k + 1) = false) := Lib.hid (by rw [HN]; rfl)
            clear HN
            go_wp2_with fail
            refine Cls.region (Lows w9) (by kernel_rfl) (by kernel_rfl) (low_drewN (Below.refl _ _) 1) ?_
            (try dsimp only [List.append])
            repeat (go_big_quiet_step (first | fail))
            refine wpQuiet_nil ?_
            intro n9
            have hk10 := n9.h
            generalize n9.w = w10 at hk10 ⊢
            clear hne n9 f0 f1 f2 f3 f4 f5 f6 f7 f8 f9 g0 g1 g2 g3 g4 g5 g6 g7 g8 g9
            go_wp2_with fail
            go_roundw
            case rel => exact ⟨k + 1, by go_num, by rw [HB.out], by omega, Lib.hid (low_trans'' HLW.out hk10)⟩
            case measure => simp [intOf]; omega
          | true =>
            rw [Bool.true_and] at HN
            by_cases hle : q1 ≤ q2
            · have hlez : (q1 : Int) ≤ (q2 : Int) := by omega
              have hd1 : decide ((q1 : Int) ≤ (q2 : Int)) = true := decide_eq_true hlez
              have hd2 : decide (q1 ≤ q2) = true := decide_eq_true hle
              rw [hd2, Bool.true_and] at HN
              by_cases hlt : q1 < q2
              · have hltz : (q1 : Int) < (q2 : Int) := by omega
                have hd3 : decide ((q1 : Int) < (q2 : Int)) = true := decide_eq_true hltz
                have hd4 : decide (q1 < q2) = true := decide_eq_true hlt
                rw [hd4, Bool.true_or] at HN
                have HB := Lib.hid HN
                clear HN
                go_wp2_with fail
                refine Cls.region (Lows w9) (by kernel_rfl) (by kernel_rfl) (low_drewN (Below.refl _ _) 1) ?_
                (try dsimp only [List.append])
                repeat (go_big_quiet_step (first | fail))
                refine wpQuiet_nil ?_
                intro n9
                have hk10 := n9.h
                generalize n9.w = w10 at hk10 ⊢
                clear hne n9 f0 f1 f2 f3 f4 f5 f6 f7 f8 f9 g0 g1 g2 g3 g4 g5 g6 g7 g8 g9
                go_wp2_with fail
                go_roundw
                case rel => exact ⟨k + 1, by go_num, by rw [HB.out], by omega, Lib.hid (low_trans'' HLW.out hk10)⟩
                case measure => simp [intOf]; omega
              · have hltz : ¬ (q1 : Int) < (q2 : Int) := by omega
                have hd3 : decide ((q1 : Int) < (q2 : Int)) = false := decide_eq_false hltz
                have hd4 : decide (q1 < q2) = false := decide_eq_false hlt
                rw [hd4, Bool.false_or] at HN
                cases hy : youngR z x with
                | true =>
                  rw [hy] at HY HN
                  have HB : Hid (bestB l i (k + 1) = false) := Lib.hid HN
                  clear HN hy
                  go_wp2_with fail
                  refine Cls.region (Lows w9) (by kernel_rfl) (by kernel_rfl) (low_drewN (Below.refl _ _) 1) ?_
                  (try dsimp only [List.append])
                  repeat (go_big_quiet_step (first | fail | (with_reducible exact Cls.call ((lows_call HY).out _ (Cls.h _)))))
                  refine wpQuiet_nil ?_
                  intro n9
                  have hk10 := n9.h
                  generalize n9.w = w10 at hk10 ⊢
                  clear hne n9 f0 f1 f2 f3 f4 f5 f6 f7 f8 f9 g0 g1 g2 g3 g4 g5 g6 g7 g8 g9
                  go_wp2_with fail
                  go_roundw
                  case rel => exact ⟨k + 1, by go_num, by rw [HB.out], by omega, Lib.hid (low_trans'' HLW.out hk10)⟩
                  case measure => simp [intOf]; omega
                | false =>
                  rw [hy] at HY HN
                  have HB : Hid (bestB l i (k + 1) = true) := Lib.hid HN
                  clear HN hy
                  go_wp2_with fail
                  refine Cls.region (Lows w9) (by kernel_rfl) (by kernel_rfl) (low_drewN (Below.refl _ _) 1) ?_
                  (try dsimp only [List.append])
                  repeat (go_big_quiet_step (first | fail | (with_reducible exact Cls.call ((lows_call HY).out _ (Cls.h _)))))
                  refine wpQuiet_nil ?_
                  intro n9
                  have hk10 := n9.h
                  generalize n9.w = w10 at hk10 ⊢
                  clear hne n9 f0 f1 f2 f3 f4 f5 f6 f7 f8 f9 g0 g1 g2 g3 g4 g5 g6 g7 g8 g9
                  go_wp2_with fail
                  go_roundw
                  case rel => exact ⟨k + 1, by go_num, by rw [HB.out], by omega, Lib.hid (low_trans'' HLW.out hk10)⟩
                  case measure => simp [intOf]; omega
            · have hlez : ¬ (q1 : Int) ≤ (q2 : Int) := by omega
              have hd1 : decide ((q1 : Int) ≤ (q2 : Int)) = false := decide_eq_false hlez
              have hd2 : decide (q1 ≤ q2) = false := decide_eq_false hle
              rw [hd2, Bool.false_and] at HN
              have HB := Lib.hid HN
              clear HN
              go_wp2_with fail
              refine Cls.region (Lows w9) (by kernel_rfl) (by kernel_rfl) (low_drewN (Below.refl _ _) 1) ?_
              (try dsimp only [List.append])
              repeat (go_big_quiet_step (first | fail))
              refine wpQuiet_nil ?_
              intro n9
              have hk10 := n9.h
              generalize n9.w = w10 at hk10 ⊢
              clear hne n9 f0 f1 f2 f3 f4 f5 f6 f7 f8 f9 g0 g1 g2 g3 g4 g5 g6 g7 g8 g9
              go_wp2_with fail
              go_roundw
              case rel => exact ⟨k + 1, by go_num, by rw [HB.out], by omega, Lib.hid (low_trans'' HLW.out hk10)⟩
              case measure => simp [intOf]; omega
        · have hlkz : ¬ (k : Int) < (l.length : Int) := by omega
          have hke : k = l.length := by omega
          subst hke
          have h0 : 0 < l.length := by omega
          have HE1 := Lib.hid (fun h => bestB_pick h0 hli h (HB0.out h0))
          have HE2 := Lib.hid (bestB_done h0)
          have HE3 : Hid (pickR l = (bestR l (l.length - 1) : Int)) := Lib.hid (by unfold pickR; rw [if_neg (by omega)])
          cases hb : bestB l i l.length with
          | true =>
            have HE : Hid (pickR l = (i : Int)) := Lib.hid (by rw [HE3.out, ← HE1.out hb])
            clear hb
            go_wp2_with fail
            go_ret
            exact ⟨by rw [HE.out]; rfl, HL.out⟩
          | false =>
            have HB1 : Hid (0 < l.length → i + 1 ≤ bestR l (l.length - 1)) := Lib.hid fun h => by
              have h1 := HB0.out h
              have h2 : i ≠ bestR l (l.length - 1) := fun e => by rw [e, HE2.out] at hb; exact Bool.noConfusion hb
              omega
            clear hb
            go_wp2_with fail
            go_roundw
            case rel => exact ⟨i + 1, by go_num, by omega, HB1, HL⟩
            case measure => simp [intOf]; omega
    · have hliz : ¬ (i : Int) < (l.length : Int) := by omega
      have h0 : l.length = 0 := by
        have h1 := best_le l (l.length - 1)
        by_cases h : 0 < l.length
        · have := HB0.out h; omega
        · omega
      have HE : Hid (pickR l = -1) := Lib.hid (by unfold pickR; rw [if_pos h0])
      go_wp2_with fail
      go_ret
      exact ⟨by rw [HE.out]; rfl, HL0.out⟩
end Go.Proofs.Ythmcggbmeabpmaa.Cw
