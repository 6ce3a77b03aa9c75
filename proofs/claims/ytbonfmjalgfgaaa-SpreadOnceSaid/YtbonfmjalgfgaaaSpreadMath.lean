/- The mathematics of groups that are taken: lists of subnets strictly in order; repetitions struck out; one subnet put in; whose groups are taken; whoever flies only where it is free. Of no program. -/
import Derived.Test.YtbonfmjalgfgaaaRef11All
import Derived.Test.YtbonfmjalgfgaaaRef08All
import Derived.Test.YtbonfmjalgfgaaaRankMath
import Derived.Test.YtbonfmjalgfgaaaPeerMath
import Derived.Test.YtbonfmjalgfgaaaBookAll
namespace Go.Proofs.Ytbonfmjalgfgaaa.Sp
set_option maxRecDepth 100000
open Ad Ci En Gr Pe Et Bo
set_option linter.unusedVariables false
instance : Inhabited Net := ⟨zero⟩
instance : DecidableEq Net := fun m n => decidable_of_iff _ (sameN_iff m n)
instance : Inhabited Pe.Pr := ⟨⟨zeroE, false, 0, ⟨0, 0⟩, 0, 0⟩⟩
/-- Strictly in order; in order. -/
def Asc (l : List Net) : Prop := l.Pairwise fun a b => cmpN a b < 0
def Up (l : List Net) : Prop := l.Pairwise fun a b => cmpN a b ≤ 0
theorem less_irr (x : Net) : ¬ cmpN x x < 0 := by have := (cmpN_zero x x).2 rfl; omega
theorem less_asy (x y : Net) (h : cmpN x y < 0) : ¬ cmpN y x < 0 := by have := cmpN_flip x y; omega
theorem asc_one {l m : List Net} (hl : Asc l) (hm : Asc m) (h : ∀ x, x ∈ l ↔ x ∈ m) : l = m := Stb.sorted_one less_irr less_asy hl hm h
theorem asc_nodup {l : List Net} (h : Asc l) : l.Nodup := h.imp fun {a b} hab e => by subst e; exact less_irr _ hab
theorem le_ne {a b : Net} (h : cmpN a b ≤ 0) (hn : a ≠ b) : cmpN a b < 0 := by
  have : cmpN a b ≠ 0 := fun e => hn ((cmpN_zero a b).1 e)
  omega
theorem le_less {a b c : Net} (h1 : cmpN a b ≤ 0) (h2 : cmpN b c < 0) : cmpN a c < 0 := by
  by_cases e : a = b
  · subst e; exact h2
  · exact cmpN_less (le_ne h1 e) h2
/-- The first i, repetitions struck out. -/
def cpt (l : List Net) : Nat → List Net
  | 0 => []
  | i + 1 => if 0 < i ∧ l[i]! = l[i - 1]! then cpt l i else cpt l i ++ [l[i]!]
theorem cpt_one (l : List Net) : cpt l 1 = [l[0]!] := by rw [cpt, if_neg (fun h => absurd h.1 (Nat.lt_irrefl 0))]; rfl
theorem cpt_skip {l : List Net} {i : Nat} (h0 : 0 < i) (h : l[i]! = l[i - 1]!) : cpt l (i + 1) = cpt l i := by rw [cpt, if_pos ⟨h0, h⟩]
theorem cpt_more {l : List Net} {i : Nat} (h : l[i]! ≠ l[i - 1]!) : cpt l (i + 1) = cpt l i ++ [l[i]!] := by rw [cpt, if_neg (fun hh => h hh.2)]
theorem cpt_len (l : List Net) : ∀ i, (cpt l i).length ≤ i
  | 0 => by simp [cpt]
  | i + 1 => by
    have := cpt_len l i
    rw [cpt]
    split
    · omega
    · simp; omega
theorem cpt_pos (l : List Net) : ∀ i, 0 < i → 0 < (cpt l i).length
  | 0, h => by omega
  | i + 1, _ => by
    rw [cpt]
    split
    · rename_i h; exact cpt_pos l i h.1
    · simp
theorem cpt_mem {l : List Net} (x : Net) : ∀ i, i ≤ l.length → (x ∈ cpt l i ↔ x ∈ l.take i)
  | 0, _ => by simp [cpt]
  | i + 1, h => by
    have hi : i < l.length := by omega
    have ih := cpt_mem (l := l) x i (by omega)
    rw [List.take_succ_eq_append_getElem (show i < l.length by omega), List.mem_append, ← ih, cpt]
    have e : l[i]! = l[i]'(by omega) := getElem!_pos l i (by omega)
    split
    · rename_i h2
      rw [List.mem_singleton]
      refine ⟨Or.inl, fun h3 => ?_⟩
      rcases h3 with h3 | h3
      · exact h3
      · rw [ih, h3, ← e, h2.2, getElem!_pos l (i - 1) (by omega)]
        exact List.mem_take_iff_getElem.2 ⟨i - 1, by omega, rfl⟩
    · rw [List.mem_append, e]
theorem cpt_asc {l : List Net} (hu : Up l) : ∀ i, i ≤ l.length → Asc (cpt l i) ∧ ∀ x ∈ cpt l i, ∀ k, i ≤ k + 1 → k < l.length → cmpN x l[k]! ≤ 0
  | 0, _ => ⟨by unfold Asc cpt; exact List.Pairwise.nil, fun x hx => by simp [cpt] at hx⟩
  | i + 1, h => by
    obtain ⟨h1, h2⟩ := cpt_asc hu i (by omega)
    have hle : ∀ k, i ≤ k → k < l.length → cmpN l[i]! l[k]! ≤ 0 := fun k hik hk => by
      rw [getElem!_pos l i (by omega), getElem!_pos l k hk]
      rcases Nat.lt_or_eq_of_le hik with h3 | h3
      · exact List.pairwise_iff_getElem.1 hu i k (by omega) hk h3
      · subst h3; exact Int.le_of_eq ((cmpN_zero _ _).2 rfl)
    by_cases hs : 0 < i ∧ l[i]! = l[i - 1]!
    · rw [cpt, if_pos hs]
      exact ⟨h1, fun x hx k hk hl => h2 x hx k (by omega) hl⟩
    · rw [cpt, if_neg hs]
      refine ⟨?_, fun x hx k hk hl => ?_⟩
      · unfold Asc
        rw [List.pairwise_append]
        refine ⟨h1, List.pairwise_singleton _ _, fun x hx y hy => ?_⟩
        rw [List.mem_singleton] at hy
        subst hy
        have h0 : 0 < i := by
          rcases Nat.eq_zero_or_pos i with e | e
          · subst e; simp [cpt] at hx
          · exact e
        have hx1 := h2 x hx (i - 1) (by omega) (by omega)
        have hne : l[i - 1]! ≠ l[i]! := fun e => hs ⟨h0, e.symm⟩
        refine le_less hx1 (le_ne ?_ hne)
        rw [getElem!_pos l (i - 1) (by omega), getElem!_pos l i (by omega)]
        exact List.pairwise_iff_getElem.1 hu (i - 1) i (by omega) (by omega) (by omega)
      · rw [List.mem_append, List.mem_singleton] at hx
        rcases hx with hx | hx
        · exact h2 x hx k (by omega) hl
        · subst hx; exact hle k (by omega) hl
theorem cpt_plain {l : List Net} : ∀ i, i ≤ l.length → (∀ k, 0 < k → k < i → l[k]! ≠ l[k - 1]!) → cpt l i = l.take i
  | 0, _, _ => rfl
  | i + 1, h, hn => by
    have ih := cpt_plain i (by omega) fun k h0 hk => hn k h0 (by omega)
    rw [List.take_succ_eq_append_getElem (by omega), ← ih, ← getElem!_pos l i (by omega), cpt]
    rcases Nat.eq_zero_or_pos i with e | e
    · subst e; rw [if_neg (by omega)]
    · rw [if_neg (fun hh => hn i e (by omega) hh.2)]
/-- Where a subnet belongs; a list with one more, if it is not there. -/
def spotN (l : List Net) (n : Net) : Nat := l.findIdx fun x => decide (0 ≤ cmpN x n)
def putN (l : List Net) (n : Net) : List Net := if spotN l n < l.length ∧ l[spotN l n]! = n then l else l.take (spotN l n) ++ n :: l.drop (spotN l n)
theorem spot_le (l : List Net) (n : Net) : spotN l n ≤ l.length := List.findIdx_le_length
theorem spot_is {l : List Net} {n : Net} {k : Nat} (hk : k ≤ l.length) (h : ∀ i, i < k → cmpN l[i]! n < 0) (hs : k < l.length → 0 ≤ cmpN l[k]! n) : spotN l n = k := by
  unfold spotN
  rcases Nat.lt_or_eq_of_le hk with h1 | h1
  · refine (List.findIdx_eq h1).2 ⟨?_, fun j hj => ?_⟩
    · have := hs h1
      rw [getElem!_pos l k h1] at this
      simpa using this
    · have := h j hj
      rw [getElem!_pos l j (by omega)] at this
      simpa using this
  · rw [h1, List.findIdx_eq_length]
    intro x hx
    obtain ⟨i, hi, rfl⟩ := List.getElem_of_mem hx
    have := h i (by omega)
    rw [getElem!_pos l i hi] at this
    simpa using this
theorem spot_low {l : List Net} {n : Net} {i : Nat} (hi : i < spotN l n) : cmpN l[i]! n < 0 := by
  have h := List.not_of_lt_findIdx hi
  rw [getElem!_pos l i (by have := spot_le l n; omega)]
  simpa using h
theorem spot_high {l : List Net} {n : Net} (h : spotN l n < l.length) : 0 ≤ cmpN l[spotN l n]! n := by
  have h2 := List.findIdx_getElem (w := h)
  rw [getElem!_pos l _ h]
  have h3 : decide (0 ≤ cmpN l[spotN l n] n) = true := h2
  exact of_decide_eq_true h3
theorem put_same {l : List Net} {n : Net} {k : Nat} (e : spotN l n = k) (hk : k < l.length) (h : l[k]! = n) : putN l n = l := by unfold putN; rw [e, if_pos ⟨hk, h⟩]
theorem put_new {l : List Net} {n : Net} {k : Nat} (e : spotN l n = k) (h : ¬ (k < l.length ∧ l[k]! = n)) : putN l n = l.take k ++ n :: l.drop k := by unfold putN; rw [e, if_neg h]
theorem put_mem (l : List Net) (n x : Net) : x ∈ putN l n ↔ x ∈ l ∨ x = n := by
  unfold putN
  split
  · rename_i h
    refine ⟨Or.inl, fun h2 => ?_⟩
    rcases h2 with h2 | h2
    · exact h2
    · rw [h2, ← h.2, getElem!_pos l _ h.1]; exact List.getElem_mem _
  · rw [List.mem_append, List.mem_cons]
    conv => rhs; rw [← List.take_append_drop (spotN l n) l, List.mem_append]
    constructor
    · rintro (h | h | h)
      · exact Or.inl (Or.inl h)
      · exact Or.inr h
      · exact Or.inl (Or.inr h)
    · rintro ((h | h) | h)
      · exact Or.inl h
      · exact Or.inr (Or.inr h)
      · exact Or.inr (Or.inl h)
theorem put_asc {l : List Net} (h : Asc l) (n : Net) : Asc (putN l n) := by
  unfold putN
  split
  · exact h
  · rename_i hn
    have hl := spot_le l n
    obtain ⟨k, hk⟩ : ∃ k, k = spotN l n := ⟨_, rfl⟩
    rw [← hk] at hn hl ⊢
    have h1 : ∀ x ∈ l.take k, cmpN x n < 0 := fun x hx => by
      obtain ⟨i, hi, rfl⟩ := List.mem_take_iff_getElem.1 hx
      have := spot_low (l := l) (n := n) (i := i) (by omega)
      rwa [getElem!_pos l i (by omega)] at this
    have h2 : ∀ y ∈ l.drop k, cmpN n y < 0 := fun y hy => by
      obtain ⟨i, hi, rfl⟩ := List.mem_drop_iff_getElem.1 hy
      have hkl : k < l.length := by omega
      have h3 := spot_high (l := l) (n := n) (by omega)
      rw [← hk, getElem!_pos l k hkl] at h3
      have h4 : cmpN n l[k] < 0 := by
        have h5 := cmpN_flip l[k] n
        refine le_ne (by omega) fun e => hn ⟨hkl, ?_⟩
        rw [getElem!_pos l k hkl]; exact e.symm
      rcases Nat.eq_zero_or_pos i with e | e
      · subst e; exact h4
      · exact cmpN_less h4 (List.pairwise_iff_getElem.1 h k (k + i) hkl (by omega) (by omega))
    unfold Asc
    rw [List.pairwise_append, List.pairwise_cons]
    refine ⟨List.Pairwise.sublist (List.take_sublist _ _) h, ⟨h2, List.Pairwise.sublist (List.drop_sublist _ _) h⟩, fun x hx y hy => ?_⟩
    rcases List.mem_cons.1 hy with e | hy
    · subst e; exact h1 x hx
    · exact cmpN_less (h1 x hx) (h2 y hy)
theorem put_len (l : List Net) (n : Net) : (putN l n).length ≤ l.length + 1 := by
  unfold putN
  split
  · omega
  · have := spot_le l n
    simp only [List.length_append, List.length_cons, List.length_take, List.length_drop]
    omega
/-- The groups of outbound peers; of entries that fly; of both. -/
def outL (l : List Pe.Pr) : List Net := (l.filter fun p => !p.i).map fun p => groupN p.e.a
def flyL (b : List Ey) : List Net := (b.filter fun y => y.st == 2).map fun y => groupN y.e.a
def takL (l : List Pe.Pr) (b : List Ey) : List Net := outL l ++ flyL b
def putsN (l : List Net) (xs : List Net) : List Net := xs.foldl putN l
/-- The groups that are taken, in order, each once. -/
def takR (l : List Pe.Pr) (b : List Ey) : List Net := putsN [] (takL l b)
theorem out_in {l : List Pe.Pr} {i : Nat} (h : i < l.length) (hi : l[i]!.i = true) : outL (l.take (i + 1)) = outL (l.take i) := by
  unfold outL
  rw [List.take_succ_eq_append_getElem h, List.filter_append, List.map_append, ← getElem!_pos l i h]
  obtain ⟨x, hx⟩ : ∃ x, x = l[i]! := ⟨_, rfl⟩
  rw [← hx] at hi ⊢
  simp [hi]
theorem out_out {l : List Pe.Pr} {i : Nat} (h : i < l.length) (hi : l[i]!.i = false) : outL (l.take (i + 1)) = outL (l.take i) ++ [groupN l[i]!.e.a] := by
  unfold outL
  rw [List.take_succ_eq_append_getElem h, List.filter_append, List.map_append, ← getElem!_pos l i h]
  obtain ⟨x, hx⟩ : ∃ x, x = l[i]! := ⟨_, rfl⟩
  rw [← hx] at hi ⊢
  simp [hi]
theorem fly_no {b : List Ey} {i : Nat} (h : i < b.length) (hi : b[i]!.st ≠ 2) : flyL (b.take (i + 1)) = flyL (b.take i) := by
  unfold flyL
  rw [List.take_succ_eq_append_getElem h, List.filter_append, List.map_append, ← getElem!_pos b i h]
  obtain ⟨x, hx⟩ : ∃ x, x = b[i]! := ⟨_, rfl⟩
  rw [← hx] at hi ⊢
  simp [hi]
theorem fly_yes {b : List Ey} {i : Nat} (h : i < b.length) (hi : b[i]!.st = 2) : flyL (b.take (i + 1)) = flyL (b.take i) ++ [groupN b[i]!.e.a] := by
  unfold flyL
  rw [List.take_succ_eq_append_getElem h, List.filter_append, List.map_append, ← getElem!_pos b i h]
  obtain ⟨x, hx⟩ : ∃ x, x = b[i]! := ⟨_, rfl⟩
  rw [← hx] at hi ⊢
  simp [hi]
theorem out_len (l : List Pe.Pr) : (outL l).length ≤ l.length := by unfold outL; rw [List.length_map]; exact List.length_filter_le _ _
theorem fly_len (b : List Ey) : (flyL b).length ≤ b.length := by unfold flyL; rw [List.length_map]; exact List.length_filter_le _ _
theorem tak_len (l : List Pe.Pr) (b : List Ey) : (takL l b).length ≤ l.length + b.length := by
  unfold takL
  have := out_len l
  have := fly_len b
  rw [List.length_append]; omega
theorem out_sub (l : List Pe.Pr) (i : Nat) : outL (l.take i) <+: outL l := by
  unfold outL
  conv => rhs; rw [← List.take_append_drop i l, List.filter_append, List.map_append]
  exact List.prefix_append _ _
theorem fly_sub (b : List Ey) (i : Nat) : flyL (b.take i) <+: flyL b := by
  unfold flyL
  conv => rhs; rw [← List.take_append_drop i b, List.filter_append, List.map_append]
  exact List.prefix_append _ _
theorem tak_out (l : List Pe.Pr) (b : List Ey) (i : Nat) : outL (l.take i) <+: takL l b := (out_sub l i).trans (List.prefix_append _ _)
theorem tak_fly (l : List Pe.Pr) (b : List Ey) (i : Nat) : outL l ++ flyL (b.take i) <+: takL l b := (List.prefix_append_right_inj _).2 (fly_sub b i)
theorem tak_ok {l : List Pe.Pr} {b : List Ey} (hl : ∀ x ∈ l, x.ok) (hb : ∀ y ∈ b, y.ok) : ∀ n ∈ takL l b, n.ok := fun n hn => by
  unfold takL outL flyL at hn
  rw [List.mem_append, List.mem_map, List.mem_map] at hn
  rcases hn with ⟨p, hp, rfl⟩ | ⟨y, hy, rfl⟩
  · exact group_ok (hl p (List.mem_filter.1 hp).1).1.1
  · exact group_ok (hb y (List.mem_filter.1 hy).1).he.1
theorem puts_app (l xs : List Net) (n : Net) : putsN l (xs ++ [n]) = putN (putsN l xs) n := by unfold putsN; rw [List.foldl_append]; rfl
theorem puts_asc : ∀ (xs l : List Net), Asc l → Asc (putsN l xs)
  | [], _, h => h
  | x :: xs, l, h => puts_asc xs (putN l x) (put_asc h x)
theorem puts_mem (y : Net) : ∀ (xs l : List Net), y ∈ putsN l xs ↔ y ∈ l ∨ y ∈ xs
  | [], l => by unfold putsN; simp
  | x :: xs, l => by
    have := puts_mem y xs (putN l x)
    unfold putsN at this ⊢
    rw [List.foldl_cons, this, put_mem, List.mem_cons, or_assoc]
theorem puts_len : ∀ (xs l : List Net), (putsN l xs).length ≤ l.length + xs.length
  | [], l => Nat.le_refl _
  | x :: xs, l => by
    have h1 := puts_len xs (putN l x)
    have h2 := put_len l x
    unfold putsN at h1 ⊢
    rw [List.foldl_cons, List.length_cons]; omega
theorem asc_nil : Asc [] := List.Pairwise.nil
/-- What was sorted, repetitions struck out, are the groups that are taken. -/
theorem cpt_taken {xs s : List Net} (hp : s.Perm xs) (hu : Up s) : cpt s s.length = putsN [] xs := by
  refine asc_one (cpt_asc hu s.length (Nat.le_refl _)).1 (puts_asc xs [] asc_nil) fun x => ?_
  rw [cpt_mem x s.length (Nat.le_refl _), List.take_length, puts_mem, hp.mem_iff]
  simp
/-- Is an address's group free? -/
def freeR (l : List Pe.Pr) (b : List Ey) (a : Adr) : Bool := rightA a && (takL l b).all fun g => !sameN g (groupN a)
theorem free_wrong {l : List Pe.Pr} {b : List Ey} {a : Adr} (h : rightA a = false) : freeR l b a = false := by unfold freeR; rw [h]; rfl
theorem free_no {l : List Pe.Pr} {b : List Ey} {a : Adr} {xs : List Net} {g : Net} (h : xs ++ [g] <+: takL l b) (hs : sameN g (groupN a) = true) : freeR l b a = false := by
  unfold freeR
  rw [Bool.and_eq_false_iff, List.all_eq_false]
  exact Or.inr ⟨g, h.subset (by simp), by rw [hs]; simp⟩
theorem free_yes {l : List Pe.Pr} {b : List Ey} {a : Adr} (h : rightA a = true) (hs : ∀ g ∈ takL l b, sameN g (groupN a) = false) : freeR l b a = true := by
  unfold freeR
  rw [h, Bool.true_and, List.all_eq_true]
  intro g hg
  rw [hs g hg]; rfl
/-- A group that is a right address's is that of right addresses alone. -/
theorem group_same {a x : Adr} (h : rightA a = true) : sameG x a = sameN (groupN x) (groupN a) := by
  cases hx : rightA x
  · rw [sameG_noA hx]
    symm
    rw [← Bool.not_eq_true, sameN_iff, group_no hx, group_yes h]
    intro e
    have := congrArg Net.n e
    have h2 := (size_le a).2.1
    simp only [zero] at this
    omega
  · exact sameG_is hx
/-- Whoever flies only where it is free. -/
def addF (b : List Ey) (e : Endp) : List Ey := if freeR [] b e.a = true then b ++ [⟨e, 2, 0, 0⟩] else b
def madeF (es : List Endp) : List Ey := es.foldl addF []
theorem made_next {es : List Endp} {i : Nat} (h : i < es.length) : madeF (es.take (i + 1)) = addF (madeF (es.take i)) es[i]! := by
  unfold madeF
  rw [List.take_succ_eq_append_getElem h, List.foldl_append, ← getElem!_pos es i h]; rfl
theorem add_len (b : List Ey) (e : Endp) : (addF b e).length ≤ b.length + 1 := by
  unfold addF
  split
  · simp
  · omega
theorem made_len : ∀ (es : List Endp) (i : Nat), i ≤ es.length → (madeF (es.take i)).length ≤ i
  | es, 0, _ => by simp [madeF]
  | es, i + 1, h => by
    have := made_len es i (by omega)
    have h2 := add_len (madeF (es.take i)) es[i]!
    rw [made_next (by omega)]; omega
/-- All fly, all are right, each in a group of its own. -/
structure Apart (b : List Ey) : Prop where
  fly : ∀ y ∈ b, y.st = 2 ∧ y.e.ok ∧ y.f = 0 ∧ y.nx = 0 ∧ rightA y.e.a = true
  one : (b.map fun y => groupN y.e.a).Nodup
theorem apart_groups {b : List Ey} (h : Apart b) : takL [] b = b.map fun y => groupN y.e.a := by
  unfold takL outL flyL
  have e : b.filter (fun y => y.st == 2) = b := List.filter_eq_self.2 fun y hy => by rw [(h.fly y hy).1]; rfl
  rw [e]; rfl
theorem apart_add {b : List Ey} (h : Apart b) {e : Endp} (he : e.ok) : Apart (addF b e) := by
  unfold addF
  split
  · rename_i hf
    unfold freeR at hf
    rw [Bool.and_eq_true, List.all_eq_true, apart_groups h] at hf
    refine ⟨fun y hy => ?_, ?_⟩
    · rw [List.mem_append, List.mem_singleton] at hy
      rcases hy with hy | rfl
      · exact h.fly y hy
      · exact ⟨rfl, he, rfl, rfl, hf.1⟩
    · rw [List.map_append, List.nodup_append]
      refine ⟨h.one, by simp, fun g hg g' hg' e => ?_⟩
      subst e
      have := hf.2 g hg
      simp only [List.map_cons, List.map_nil, List.mem_singleton] at hg'
      rw [hg', (sameN_iff _ _).2 rfl] at this
      cases this
  · exact h
theorem made_apart {es : List Endp} (h : ∀ e ∈ es, e.ok) : ∀ i, i ≤ es.length → Apart (madeF (es.take i))
  | 0, _ => ⟨fun y hy => by simp [madeF] at hy, by simp [madeF]⟩
  | i + 1, hi => by
    rw [made_next (by omega)]
    exact apart_add (made_apart h i (by omega)) (by rw [getElem!_pos es i (by omega)]; exact h _ (List.getElem_mem _))
theorem apart_ok {b : List Ey} (h : Apart b) : ∀ y ∈ b, y.ok := fun y hy => by
  obtain ⟨h1, h2, h3, h4, _⟩ := h.fly y hy
  exact ⟨h2, by rw [h1]; unfold Bk.i64B; omega, by rw [h3]; unfold Bk.i64B; omega, by rw [h4]; unfold Bk.i64B; omega⟩
theorem apart_unlike {b : List Ey} (h : Apart b) {i k : Nat} (hi : i < b.length) (hk : k < i) : sameG b[i]!.e.a b[k]!.e.a = false := by
  unfold sameG
  rw [Bool.and_eq_false_iff]
  right
  rw [← Bool.not_eq_true, sameN_iff]
  intro e
  have := List.pairwise_iff_getElem.1 h.one k i (by simp; omega) (by simpa using hi) hk
  rw [getElem!_pos b i hi, getElem!_pos b k (by omega)] at e
  simp only [List.getElem_map] at this
  exact this e.symm
theorem apart_taken {b : List Ey} (h : Apart b) : (takR [] b).length = b.length := by
  unfold takR
  rw [apart_groups h]
  have hp : (putsN [] (b.map fun y => groupN y.e.a)).Perm (b.map fun y => groupN y.e.a) :=
    (List.perm_ext_iff_of_nodup (asc_nodup (puts_asc _ [] asc_nil)) h.one).2 fun x => by rw [puts_mem]; simp
  rw [hp.length_eq, List.length_map]
end Go.Proofs.Ytbonfmjalgfgaaa.Sp
