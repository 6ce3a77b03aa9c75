/- Groups that are taken: the mathematics; subnets in memory; the order of subnets with the count of draws; the iterator over those that take a group; is an address's group free? -/
import Derived.Test.YtgnjbbohphoojaaRef11All
import Derived.Test.YtgnjbbohphoojaaRef08All
import Derived.Test.YtgnjbbohphoojaaPeersAll
import Derived.Test.YtgnjbbohphoojaaBookAll
import Derived.Test.YtgnjbbohphoojaaBox
import Derived.Test.YtgnjbbohphoojaaEndpDoor
import Derived.Test.YtgnjbbohphoojaaRecsDoor
import Derived.Test.YtgnjbbohphoojaaCidrDoor
import Derived.Laws.AppendOwn
import Derived.Laws.Cover3
import Derived.Deep.RegionHeld3
import Derived.Deep.CutRange
import Derived.Lib.MinMax
import Derived.Sort.Grow
import Derived.Deep.LoopGhost
import Derived.RangeFuncNested
import Derived.RangeFuncBound
import Derived.RangeFuncCalls
import Derived.RangeFuncLeaves
import Derived.Shelf.Abstract
import Derived.Shelf.RegionOpen
import Derived.WalkKit
import Derived.OwnWalkIn
import Derived.TacticsInMore
import Derived.LoopNIn
import Derived.LoopIn
namespace Go.Proofs.Ytgnjbbohphoojaa.Sp
set_option maxRecDepth 100000
open Ad Ci En Gr Pe Et Bo
set_option linter.unusedVariables false
instance : Inhabited Net := ⟨zero⟩
instance : DecidableEq Net := fun m n => decidable_of_iff _ (sameN_iff m n)
instance : Inhabited Pe.Pr := ⟨⟨zeroE, false, 0, ⟨0, 0⟩, 0, 0⟩⟩
/-- Strictly in order; in order. -/
def Asc (l : List Net) : Prop := l.Pairwise fun a b => cmpN a b < 0
def Up (l : List Net) : Prop := l.Pairwise fun a b => cmpN a b ≤ 0
theorem less_irr (x : Net) : ¬ cmpN x x < 0 := by have := (cmpN_zero x x).2 rfl; omega
theorem less_asy (x y : Net) (h : cmpN x y < 0) : ¬ cmpN y x < 0 := by have := cmpN_flip x y; omega
theorem asc_one {l m : List Net} (hl : Asc l) (hm : Asc m) (h : ∀ x, x ∈ l ↔ x ∈ m) : l = m := Stb.sorted_one less_irr less_asy hl hm h
theorem asc_nodup {l : List Net} (h : Asc l) : l.Nodup := h.imp fun {a b} hab e => by subst e; exact less_irr _ hab
theorem le_ne {a b : Net} (h : cmpN a b ≤ 0) (hn : a ≠ b) : cmpN a b < 0 := by
  have : cmpN a b ≠ 0 := fun e => hn ((cmpN_zero a b).1 e)
  omega
theorem le_less {a b c : Net} (h1 : cmpN a b ≤ 0) (h2 : cmpN b c < 0) : cmpN a c < 0 := by
  by_cases e : a = b
  · subst e; exact h2
  · exact cmpN_less (le_ne h1 e) h2
/-- The first i, repetitions struck out. -/
def cpt (l : List Net) : Nat → List Net
  | 0 => []
  | i + 1 => if 0 < i ∧ l[i]! = l[i - 1]! then cpt l i else cpt l i ++ [l[i]!]
theorem cpt_one (l : List Net) : cpt l 1 = [l[0]!] := by rw [cpt, if_neg (fun h => absurd h.1 (Nat.lt_irrefl 0))]; rfl
theorem cpt_skip {l : List Net} {i : Nat} (h0 : 0 < i) (h : l[i]! = l[i - 1]!) : cpt l (i + 1) = cpt l i := by rw [cpt, if_pos ⟨h0, h⟩]
theorem cpt_more {l : List Net} {i : Nat} (h : l[i]! ≠ l[i - 1]!) : cpt l (i + 1) = cpt l i ++ [l[i]!] := by rw [cpt, if_neg (fun hh => h hh.2)]
theorem cpt_len (l : List Net) : ∀ i, (cpt l i).length ≤ i
  | 0 => by simp [cpt]
  | i + 1 => by
    have := cpt_len l i
    rw [cpt]
    split
    · omega
    · simp; omega
theorem cpt_pos (l : List Net) : ∀ i, 0 < i → 0 < (cpt l i).length
  | 0, h => by omega
  | i + 1, _ => by
    rw [cpt]
    split
    · rename_i h; exact cpt_pos l i h.1
    · simp
theorem cpt_mem {l : List Net} (x : Net) : ∀ i, i ≤ l.length → (x ∈ cpt l i ↔ x ∈ l.take i)
  | 0, _ => by simp [cpt]
  | i + 1, h => by
    have hi : i < l.length := by omega
    have ih := cpt_mem (l := l) x i (by omega)
    rw [List.take_succ_eq_append_getElem (show i < l.length by omega), List.mem_append, ← ih, cpt]
    have e : l[i]! = l[i]'(by omega) := getElem!_pos l i (by omega)
    split
    · rename_i h2
      rw [List.mem_singleton]
      refine ⟨Or.inl, fun h3 => ?_⟩
      rcases h3 with h3 | h3
      · exact h3
      · rw [ih, h3, ← e, h2.2, getElem!_pos l (i - 1) (by omega)]
        exact List.mem_take_iff_getElem.2 ⟨i - 1, by omega, rfl⟩
    · rw [List.mem_append, e]
theorem cpt_asc {l : List Net} (hu : Up l) : ∀ i, i ≤ l.length → Asc (cpt l i) ∧ ∀ x ∈ cpt l i, ∀ k, i ≤ k + 1 → k < l.length → cmpN x l[k]! ≤ 0
  | 0, _ => ⟨by unfold Asc cpt; exact List.Pairwise.nil, fun x hx => by simp [cpt] at hx⟩
  | i + 1, h => by
    obtain ⟨h1, h2⟩ := cpt_asc hu i (by omega)
    have hle : ∀ k, i ≤ k → k < l.length → cmpN l[i]! l[k]! ≤ 0 := fun k hik hk => by
      rw [getElem!_pos l i (by omega), getElem!_pos l k hk]
      rcases Nat.lt_or_eq_of_le hik with h3 | h3
      · exact List.pairwise_iff_getElem.1 hu i k (by omega) hk h3
      · subst h3; exact Int.le_of_eq ((cmpN_zero _ _).2 rfl)
    by_cases hs : 0 < i ∧ l[i]! = l[i - 1]!
    · rw [cpt, if_pos hs]
      exact ⟨h1, fun x hx k hk hl => h2 x hx k (by omega) hl⟩
    · rw [cpt, if_neg hs]
      refine ⟨?_, fun x hx k hk hl => ?_⟩
      · unfold Asc
        rw [List.pairwise_append]
        refine ⟨h1, List.pairwise_singleton _ _, fun x hx y hy => ?_⟩
        rw [List.mem_singleton] at hy
        subst hy
        have h0 : 0 < i := by
          rcases Nat.eq_zero_or_pos i with e | e
          · subst e; simp [cpt] at hx
          · exact e
        have hx1 := h2 x hx (i - 1) (by omega) (by omega)
        have hne : l[i - 1]! ≠ l[i]! := fun e => hs ⟨h0, e.symm⟩
        refine le_less hx1 (le_ne ?_ hne)
        rw [getElem!_pos l (i - 1) (by omega), getElem!_pos l i (by omega)]
        exact List.pairwise_iff_getElem.1 hu (i - 1) i (by omega) (by omega) (by omega)
      · rw [List.mem_append, List.mem_singleton] at hx
        rcases hx with hx | hx
        · exact h2 x hx k (by omega) hl
        · subst hx; exact hle k (by omega) hl
theorem cpt_plain {l : List Net} : ∀ i, i ≤ l.length → (∀ k, 0 < k → k < i → l[k]! ≠ l[k - 1]!) → cpt l i = l.take i
  | 0, _, _ => rfl
  | i + 1, h, hn => by
    have ih := cpt_plain i (by omega) fun k h0 hk => hn k h0 (by omega)
    rw [List.take_succ_eq_append_getElem (by omega), ← ih, ← getElem!_pos l i (by omega), cpt]
    rcases Nat.eq_zero_or_pos i with e | e
    · subst e; rw [if_neg (by omega)]
    · rw [if_neg (fun hh => hn i e (by omega) hh.2)]
/-- Where a subnet belongs; a list with one more, if it is not there. -/
def spotN (l : List Net) (n : Net) : Nat := l.findIdx fun x => decide (0 ≤ cmpN x n)
def putN (l : List Net) (n : Net) : List Net := if spotN l n < l.length ∧ l[spotN l n]! = n then l else l.take (spotN l n) ++ n :: l.drop (spotN l n)
theorem spot_le (l : List Net) (n : Net) : spotN l n ≤ l.length := List.findIdx_le_length
theorem spot_is {l : List Net} {n : Net} {k : Nat} (hk : k ≤ l.length) (h : ∀ i, i < k → cmpN l[i]! n < 0) (hs : k < l.length → 0 ≤ cmpN l[k]! n) : spotN l n = k := by
  unfold spotN
  rcases Nat.lt_or_eq_of_le hk with h1 | h1
  · refine (List.findIdx_eq h1).2 ⟨?_, fun j hj => ?_⟩
    · have := hs h1
      rw [getElem!_pos l k h1] at this
      simpa using this
    · have := h j hj
      rw [getElem!_pos l j (by omega)] at this
      simpa using this
  · rw [h1, List.findIdx_eq_length]
    intro x hx
    obtain ⟨i, hi, rfl⟩ := List.getElem_of_mem hx
    have := h i (by omega)
    rw [getElem!_pos l i hi] at this
    simpa using this
theorem spot_low {l : List Net} {n : Net} {i : Nat} (hi : i < spotN l n) : cmpN l[i]! n < 0 := by
  have h := List.not_of_lt_findIdx hi
  rw [getElem!_pos l i (by have := spot_le l n; omega)]
  simpa using h
theorem spot_high {l : List Net} {n : Net} (h : spotN l n < l.length) : 0 ≤ cmpN l[spotN l n]! n := by
  have h2 := List.findIdx_getElem (w := h)
  rw [getElem!_pos l _ h]
  have h3 : decide (0 ≤ cmpN l[spotN l n] n) = true := h2
  exact of_decide_eq_true h3
theorem put_same {l : List Net} {n : Net} {k : Nat} (e : spotN l n = k) (hk : k < l.length) (h : l[k]! = n) : putN l n = l := by unfold putN; rw [e, if_pos ⟨hk, h⟩]
theorem put_new {l : List Net} {n : Net} {k : Nat} (e : spotN l n = k) (h : ¬ (k < l.length ∧ l[k]! = n)) : putN l n = l.take k ++ n :: l.drop k := by unfold putN; rw [e, if_neg h]
theorem put_mem (l : List Net) (n x : Net) : x ∈ putN l n ↔ x ∈ l ∨ x = n := by
  unfold putN
  split
  · rename_i h
    refine ⟨Or.inl, fun h2 => ?_⟩
    rcases h2 with h2 | h2
    · exact h2
    · rw [h2, ← h.2, getElem!_pos l _ h.1]; exact List.getElem_mem _
  · rw [List.mem_append, List.mem_cons]
    conv => rhs; rw [← List.take_append_drop (spotN l n) l, List.mem_append]
    constructor
    · rintro (h | h | h)
      · exact Or.inl (Or.inl h)
      · exact Or.inr h
      · exact Or.inl (Or.inr h)
    · rintro ((h | h) | h)
      · exact Or.inl h
      · exact Or.inr (Or.inr h)
      · exact Or.inr (Or.inl h)
theorem put_asc {l : List Net} (h : Asc l) (n : Net) : Asc (putN l n) := by
  unfold putN
  split
  · exact h
  · rename_i hn
    have hl := spot_le l n
    obtain ⟨k, hk⟩ : ∃ k, k = spotN l n := ⟨_, rfl⟩
    rw [← hk] at hn hl ⊢
    have h1 : ∀ x ∈ l.take k, cmpN x n < 0 := fun x hx => by
      obtain ⟨i, hi, rfl⟩ := List.mem_take_iff_getElem.1 hx
      have := spot_low (l := l) (n := n) (i := i) (by omega)
      rwa [getElem!_pos l i (by omega)] at this
    have h2 : ∀ y ∈ l.drop k, cmpN n y < 0 := fun y hy => by
      obtain ⟨i, hi, rfl⟩ := List.mem_drop_iff_getElem.1 hy
      have hkl : k < l.length := by omega
      have h3 := spot_high (l := l) (n := n) (by omega)
      rw [← hk, getElem!_pos l k hkl] at h3
      have h4 : cmpN n l[k] < 0 := by
        have h5 := cmpN_flip l[k] n
        refine le_ne (by omega) fun e => hn ⟨hkl, ?_⟩
        rw [getElem!_pos l k hkl]; exact e.symm
      rcases Nat.eq_zero_or_pos i with e | e
      · subst e; exact h4
      · exact cmpN_less h4 (List.pairwise_iff_getElem.1 h k (k + i) hkl (by omega) (by omega))
    unfold Asc
    rw [List.pairwise_append, List.pairwise_cons]
    refine ⟨List.Pairwise.sublist (List.take_sublist _ _) h, ⟨h2, List.Pairwise.sublist (List.drop_sublist _ _) h⟩, fun x hx y hy => ?_⟩
    rcases List.mem_cons.1 hy with e | hy
    · subst e; exact h1 x hx
    · exact cmpN_less (h1 x hx) (h2 y hy)
theorem put_len (l : List Net) (n : Net) : (putN l n).length ≤ l.length + 1 := by
  unfold putN
  split
  · omega
  · have := spot_le l n
    simp only [List.length_append, List.length_cons, List.length_take, List.length_drop]
    omega
/-- The groups of outbound peers; of entries that fly; of both. -/
def outL (l : List Pe.Pr) : List Net := (l.filter fun p => !p.i).map fun p => groupN p.e.a
def flyL (b : List Ey) : List Net := (b.filter fun y => y.st == 2).map fun y => groupN y.e.a
def takL (l : List Pe.Pr) (b : List Ey) : List Net := outL l ++ flyL b
def putsN (l : List Net) (xs : List Net) : List Net := xs.foldl putN l
/-- The groups that are taken, in order, each once. -/
def takR (l : List Pe.Pr) (b : List Ey) : List Net := putsN [] (takL l b)
theorem out_in {l : List Pe.Pr} {i : Nat} (h : i < l.length) (hi : l[i]!.i = true) : outL (l.take (i + 1)) = outL (l.take i) := by
  unfold outL
  rw [List.take_succ_eq_append_getElem h, List.filter_append, List.map_append, ← getElem!_pos l i h]
  obtain ⟨x, hx⟩ : ∃ x, x = l[i]! := ⟨_, rfl⟩
  rw [← hx] at hi ⊢
  simp [hi]
theorem out_out {l : List Pe.Pr} {i : Nat} (h : i < l.length) (hi : l[i]!.i = false) : outL (l.take (i + 1)) = outL (l.take i) ++ [groupN l[i]!.e.a] := by
  unfold outL
  rw [List.take_succ_eq_append_getElem h, List.filter_append, List.map_append, ← getElem!_pos l i h]
  obtain ⟨x, hx⟩ : ∃ x, x = l[i]! := ⟨_, rfl⟩
  rw [← hx] at hi ⊢
  simp [hi]
theorem fly_no {b : List Ey} {i : Nat} (h : i < b.length) (hi : b[i]!.st ≠ 2) : flyL (b.take (i + 1)) = flyL (b.take i) := by
  unfold flyL
  rw [List.take_succ_eq_append_getElem h, List.filter_append, List.map_append, ← getElem!_pos b i h]
  obtain ⟨x, hx⟩ : ∃ x, x = b[i]! := ⟨_, rfl⟩
  rw [← hx] at hi ⊢
  simp [hi]
theorem fly_yes {b : List Ey} {i : Nat} (h : i < b.length) (hi : b[i]!.st = 2) : flyL (b.take (i + 1)) = flyL (b.take i) ++ [groupN b[i]!.e.a] := by
  unfold flyL
  rw [List.take_succ_eq_append_getElem h, List.filter_append, List.map_append, ← getElem!_pos b i h]
  obtain ⟨x, hx⟩ : ∃ x, x = b[i]! := ⟨_, rfl⟩
  rw [← hx] at hi ⊢
  simp [hi]
theorem out_len (l : List Pe.Pr) : (outL l).length ≤ l.length := by unfold outL; rw [List.length_map]; exact List.length_filter_le _ _
theorem fly_len (b : List Ey) : (flyL b).length ≤ b.length := by unfold flyL; rw [List.length_map]; exact List.length_filter_le _ _
theorem tak_len (l : List Pe.Pr) (b : List Ey) : (takL l b).length ≤ l.length + b.length := by
  unfold takL
  have := out_len l
  have := fly_len b
  rw [List.length_append]; omega
theorem out_sub (l : List Pe.Pr) (i : Nat) : outL (l.take i) <+: outL l := by
  unfold outL
  conv => rhs; rw [← List.take_append_drop i l, List.filter_append, List.map_append]
  exact List.prefix_append _ _
theorem fly_sub (b : List Ey) (i : Nat) : flyL (b.take i) <+: flyL b := by
  unfold flyL
  conv => rhs; rw [← List.take_append_drop i b, List.filter_append, List.map_append]
  exact List.prefix_append _ _
theorem tak_out (l : List Pe.Pr) (b : List Ey) (i : Nat) : outL (l.take i) <+: takL l b := (out_sub l i).trans (List.prefix_append _ _)
theorem tak_fly (l : List Pe.Pr) (b : List Ey) (i : Nat) : outL l ++ flyL (b.take i) <+: takL l b := (List.prefix_append_right_inj _).2 (fly_sub b i)
theorem tak_ok {l : List Pe.Pr} {b : List Ey} (hl : ∀ x ∈ l, x.ok) (hb : ∀ y ∈ b, y.ok) : ∀ n ∈ takL l b, n.ok := fun n hn => by
  unfold takL outL flyL at hn
  rw [List.mem_append, List.mem_map, List.mem_map] at hn
  rcases hn with ⟨p, hp, rfl⟩ | ⟨y, hy, rfl⟩
  · exact group_ok (hl p (List.mem_filter.1 hp).1).1.1
  · exact group_ok (hb y (List.mem_filter.1 hy).1).he.1
theorem puts_app (l xs : List Net) (n : Net) : putsN l (xs ++ [n]) = putN (putsN l xs) n := by unfold putsN; rw [List.foldl_append]; rfl
theorem puts_asc : ∀ (xs l : List Net), Asc l → Asc (putsN l xs)
  | [], _, h => h
  | x :: xs, l, h => puts_asc xs (putN l x) (put_asc h x)
theorem puts_mem (y : Net) : ∀ (xs l : List Net), y ∈ putsN l xs ↔ y ∈ l ∨ y ∈ xs
  | [], l => by unfold putsN; simp
  | x :: xs, l => by
    have := puts_mem y xs (putN l x)
    unfold putsN at this ⊢
    rw [List.foldl_cons, this, put_mem, List.mem_cons, or_assoc]
theorem puts_len : ∀ (xs l : List Net), (putsN l xs).length ≤ l.length + xs.length
  | [], l => Nat.le_refl _
  | x :: xs, l => by
    have h1 := puts_len xs (putN l x)
    have h2 := put_len l x
    unfold putsN at h1 ⊢
    rw [List.foldl_cons, List.length_cons]; omega
theorem asc_nil : Asc [] := List.Pairwise.nil
/-- What was sorted, repetitions struck out, are the groups that are taken. -/
theorem cpt_taken {xs s : List Net} (hp : s.Perm xs) (hu : Up s) : cpt s s.length = putsN [] xs := by
  refine asc_one (cpt_asc hu s.length (Nat.le_refl _)).1 (puts_asc xs [] asc_nil) fun x => ?_
  rw [cpt_mem x s.length (Nat.le_refl _), List.take_length, puts_mem, hp.mem_iff]
  simp
/-- Is an address's group free? -/
def freeR (l : List Pe.Pr) (b : List Ey) (a : Adr) : Bool := rightA a && (takL l b).all fun g => !sameN g (groupN a)
theorem free_wrong {l : List Pe.Pr} {b : List Ey} {a : Adr} (h : rightA a = false) : freeR l b a = false := by unfold freeR; rw [h]; rfl
theorem free_no {l : List Pe.Pr} {b : List Ey} {a : Adr} {xs : List Net} {g : Net} (h : xs ++ [g] <+: takL l b) (hs : sameN g (groupN a) = true) : freeR l b a = false := by
  unfold freeR
  rw [Bool.and_eq_false_iff, List.all_eq_false]
  exact Or.inr ⟨g, h.subset (by simp), by rw [hs]; simp⟩
theorem free_yes {l : List Pe.Pr} {b : List Ey} {a : Adr} (h : rightA a = true) (hs : ∀ g ∈ takL l b, sameN g (groupN a) = false) : freeR l b a = true := by
  unfold freeR
  rw [h, Bool.true_and, List.all_eq_true]
  intro g hg
  rw [hs g hg]; rfl
/-- A group that is a right address's is that of right addresses alone. -/
theorem group_same {a x : Adr} (h : rightA a = true) : sameG x a = sameN (groupN x) (groupN a) := by
  cases hx : rightA x
  · rw [sameG_noA hx]
    symm
    rw [← Bool.not_eq_true, sameN_iff, group_no hx, group_yes h]
    intro e
    have := congrArg Net.n e
    have h2 := (size_le a).2.1
    simp only [zero] at this
    omega
  · exact sameG_is hx
/-- Whoever flies only where it is free. -/
def addF (b : List Ey) (e : Endp) : List Ey := if freeR [] b e.a = true then b ++ [⟨e, 2, 0, 0⟩] else b
def madeF (es : List Endp) : List Ey := es.foldl addF []
theorem made_next {es : List Endp} {i : Nat} (h : i < es.length) : madeF (es.take (i + 1)) = addF (madeF (es.take i)) es[i]! := by
  unfold madeF
  rw [List.take_succ_eq_append_getElem h, List.foldl_append, ← getElem!_pos es i h]; rfl
theorem add_len (b : List Ey) (e : Endp) : (addF b e).length ≤ b.length + 1 := by
  unfold addF
  split
  · simp
  · omega
theorem made_len : ∀ (es : List Endp) (i : Nat), i ≤ es.length → (madeF (es.take i)).length ≤ i
  | es, 0, _ => by simp [madeF]
  | es, i + 1, h => by
    have := made_len es i (by omega)
    have h2 := add_len (madeF (es.take i)) es[i]!
    rw [made_next (by omega)]; omega
/-- All fly, all are right, each in a group of its own. -/
structure Apart (b : List Ey) : Prop where
  fly : ∀ y ∈ b, y.st = 2 ∧ y.e.ok ∧ y.f = 0 ∧ y.nx = 0 ∧ rightA y.e.a = true
  one : (b.map fun y => groupN y.e.a).Nodup
theorem apart_groups {b : List Ey} (h : Apart b) : takL [] b = b.map fun y => groupN y.e.a := by
  unfold takL outL flyL
  have e : b.filter (fun y => y.st == 2) = b := List.filter_eq_self.2 fun y hy => by rw [(h.fly y hy).1]; rfl
  rw [e]; rfl
theorem apart_add {b : List Ey} (h : Apart b) {e : Endp} (he : e.ok) : Apart (addF b e) := by
  unfold addF
  split
  · rename_i hf
    unfold freeR at hf
    rw [Bool.and_eq_true, List.all_eq_true, apart_groups h] at hf
    refine ⟨fun y hy => ?_, ?_⟩
    · rw [List.mem_append, List.mem_singleton] at hy
      rcases hy with hy | rfl
      · exact h.fly y hy
      · exact ⟨rfl, he, rfl, rfl, hf.1⟩
    · rw [List.map_append, List.nodup_append]
      refine ⟨h.one, by simp, fun g hg g' hg' e => ?_⟩
      subst e
      have := hf.2 g hg
      simp only [List.map_cons, List.map_nil, List.mem_singleton] at hg'
      rw [hg', (sameN_iff _ _).2 rfl] at this
      cases this
  · exact h
theorem made_apart {es : List Endp} (h : ∀ e ∈ es, e.ok) : ∀ i, i ≤ es.length → Apart (madeF (es.take i))
  | 0, _ => ⟨fun y hy => by simp [madeF] at hy, by simp [madeF]⟩
  | i + 1, hi => by
    rw [made_next (by omega)]
    exact apart_add (made_apart h i (by omega)) (by rw [getElem!_pos es i (by omega)]; exact h _ (List.getElem_mem _))
theorem apart_ok {b : List Ey} (h : Apart b) : ∀ y ∈ b, y.ok := fun y hy => by
  obtain ⟨h1, h2, h3, h4, _⟩ := h.fly y hy
  exact ⟨h2, by rw [h1]; unfold Bk.i64B; omega, by rw [h3]; unfold Bk.i64B; omega, by rw [h4]; unfold Bk.i64B; omega⟩
theorem apart_unlike {b : List Ey} (h : Apart b) {i k : Nat} (hi : i < b.length) (hk : k < i) : sameG b[i]!.e.a b[k]!.e.a = false := by
  unfold sameG
  rw [Bool.and_eq_false_iff]
  right
  rw [← Bool.not_eq_true, sameN_iff]
  intro e
  have := List.pairwise_iff_getElem.1 h.one k i (by simp; omega) (by simpa using hi) hk
  rw [getElem!_pos b i hi, getElem!_pos b k (by omega)] at e
  simp only [List.getElem_map] at this
  exact this e.symm
theorem apart_taken {b : List Ey} (h : Apart b) : (takR [] b).length = b.length := by
  unfold takR
  rw [apart_groups h]
  have hp : (putsN [] (b.map fun y => groupN y.e.a)).Perm (b.map fun y => groupN y.e.a) :=
    (List.perm_ext_iff_of_nodup (asc_nodup (puts_asc _ [] asc_nil)) h.one).2 fun x => by rw [puts_mem]; simp
  rw [hp.length_eq, List.length_map]
end Go.Proofs.Ytgnjbbohphoojaa.Sp
/- Subnets in memory: put behind each other, stored; the order of subnets, with what becomes of the count of draws. -/
namespace Go.Proofs.Ytgnjbbohphoojaa.Sp
set_option maxRecDepth 100000
open Go.ChangeShapes Go.WideShapes Go.ChangeAt Go.RowKit
open Dec Words V4 V6 Ad Ci En Gr Go.Deep
set_option linter.unusedVariables false
def encM (n : Net) : List Value := [.bool n.a.v6, .int .u64 n.a.hi, .int .u64 n.a.lo, .int .i64 n.n]
theorem encM_len (n : Net) : (encM n).length = 4 := rfl
theorem encM_one (n : Net) : ∀ u ∈ encM n, u.oneCell' = true := fun u hu => by
  simp only [encM, List.mem_cons, List.not_mem_nil, or_false] at hu
  rcases hu with rfl | rfl | rfl | rfl <;> rfl
abbrev Nets (w : World) (v : Value) (l : List Net) : Prop := Recs 4 encM w v l
abbrev OwnM (B : Nat) (w : World) (v : Value) (l : List Net) : Prop := w.ownsRow B 43 4 v l.length (flat encM l)
theorem info_net : (Try.prog.info? 43).map (fun i => (i.zero, i.size, i.bytes)) = some (some (.agg #[.bool false, .int .u64 0, .int .u64 0, .int .i64 0]), 4, 32) := by kernel_rfl
theorem ownM_lit (W : World) {B : Nat} (hB : B ≤ W.heap.size) : OwnM B (W.alloc (.cells #[] 43)) (.slice (some ⟨W.heap.size, 0, none⟩) 0 0) [] := World.ownsRow_made W #[] 0 hB (by simp [maxLen]) rfl
theorem ownM_nil (W : World) (B : Nat) : OwnM B W (.slice none 0 0) [] := ⟨rfl, Or.inl ⟨rfl, rfl⟩⟩
theorem ownM_nets {B : Nat} {w : World} {v : Value} {l : List Net} (h : OwnM B w v l) : Nets w v l := (recs_own encM_len (by decide) h).1
theorem own_blkM {B : Nat} {w : World} {v : Value} {l : List Net} (h : OwnM B w v l) (h0 : 0 < l.length) : ∃ g cap Z, v = .slice (some ⟨g, 0, none⟩) l.length cap ∧ B ≤ g ∧ l.length ≤ cap ∧ Blk w g 43 (flat encM l ++ Z) := by
  obtain ⟨h1, h2⟩ := h
  rcases h2 with ⟨_, h3⟩ | ⟨g, cap, cur, rfl, hB, hg, hn, _, _, ht⟩
  · omega
  · refine ⟨g, cap, cur.toList.drop (l.length * 4), rfl, hB, hn, ?_⟩
    unfold Blk
    rw [hg, ← ht, List.take_append_drop]
theorem cellM {w : World} {g : Nat} {t : TypeId} {D : List Net} {Z : List Value} (h : Blk w g t (flat encM D ++ Z)) {i j : Nat} {u : Value} (hi : i < D.length) (hu : (encM D[i]!)[j]? = some u) : w.cell? ⟨g, i * 4 + j, none⟩ = some u := by
  have hj : j < 4 := by have := (List.getElem?_eq_some_iff.1 hu).1; rwa [encM_len] at this
  refine h.cell ?_
  rw [List.getElem?_append_left (by rw [flat_len encM_len]; omega), flat_at encM_len D i j hi hj, ← hu, getElem!_pos D i hi]
theorem spliceM {α : Type} (A Z vs : List α) (o : Nat) (h : o + vs.length ≤ A.length) : splice (A ++ Z) o vs = splice A o vs ++ Z := by
  unfold splice
  rw [List.take_append_of_le_length (by omega), List.drop_append_of_le_length (by omega)]
  simp only [List.append_assoc]
theorem splice1M {α : Type} (A : List α) (x : α) {i : Nat} (h : i < A.length) : splice A i [x] = A.set i x := by
  unfold splice
  rw [List.set_eq_take_append_cons_drop, if_pos h]; simp
theorem put_net {w : World} {g : Nat} {t : TypeId} {D : List Net} {Z : List Value} (h : Blk w g t (flat encM D ++ Z)) {i : Nat} (hi : i < D.length) (x : Net) :
    Blk ((((w.setCell ⟨g, i * 4, none⟩ (.bool x.a.v6)).setCell ⟨g, i * 4 + 1, none⟩ (.int .u64 x.a.hi)).setCell ⟨g, i * 4 + 2, none⟩ (.int .u64 x.a.lo)).setCell ⟨g, i * 4 + 3, none⟩ (.int .i64 x.n)) g t (flat encM (D.set i x) ++ Z) ∧ Bt g w ((((w.setCell ⟨g, i * 4, none⟩ (.bool x.a.v6)).setCell ⟨g, i * 4 + 1, none⟩ (.int .u64 x.a.hi)).setCell ⟨g, i * 4 + 2, none⟩ (.int .u64 x.a.lo)).setCell ⟨g, i * 4 + 3, none⟩ (.int .i64 x.n)) := by
  have k := setCells_blk g t (encM x) (i * 4) w _ h (by rw [encM_len, List.length_append, flat_len encM_len]; omega)
  rw [spliceM _ _ _ _ (by rw [encM_len, flat_len encM_len]; omega), ← flat_one encM x, flat_splice encM_len, splice1M _ _ hi, flat_one] at k
  exact k
/-- A world behind another one: nothing of that one is changed, and the draws are behind its draws. -/
def Gw (w w' : World) : Prop := Below w.heap.size w w' ∧ w.drawn ≤ w'.drawn
theorem Gw.refl (w : World) : Gw w w := ⟨Below.refl _ _, Nat.le_refl _⟩
theorem Gw.trans {a b c : World} (h : Gw a b) (k : Gw b c) : Gw a c := ⟨low_trans h.1 k.1, Nat.le_trans h.2 k.2⟩
theorem Gw.drew {a b : World} (h : Gw a b) : Gw a b.drew := ⟨low_drewN h.1 1, Nat.le_trans h.2 (Nat.le_succ _)⟩
theorem Gw.alloc {a b : World} (h : Gw a b) (o : Obj) : Gw a (b.alloc o) := ⟨Below.alloc h.1 h.1.size o, h.2⟩
theorem Gw.two (w : World) (o p : Obj) : Gw w ((w.alloc o).alloc p) := ((Gw.refl w).alloc o).alloc p
/-- Such a world is that one after some draws, with some blocks behind it. -/
theorem Gw.grown {w w' : World} (h : Gw w w') : ∃ q os, w' = Sort.grow (w.drewN q) os := by
  obtain ⟨⟨h1, h2, h3, h4, h5⟩, h6⟩ := h
  refine ⟨w'.drawn - w.drawn, w'.heap.extract w.heap.size w'.heap.size, ?_⟩
  obtain ⟨hp, tp, dr, o, out⟩ := w
  obtain ⟨hp', tp', dr', o', out'⟩ := w'
  simp only at h1 h2 h3 h4 h5 h6
  subst h1 h2 h3
  have e1 : hp ++ hp'.extract hp.size hp'.size = hp' := by
    refine Array.ext (by simp; omega) fun i i1 i2 => ?_
    by_cases hi : i < hp.size
    · rw [Array.getElem_append_left hi]
      have := h5 i hi
      rw [Array.getElem?_eq_getElem i2, Array.getElem?_eq_getElem hi] at this
      exact (Option.some.inj this).symm
    · rw [Array.getElem_append_right (by omega), Array.getElem_extract]
      congr 1
      omega
  have e2 : dr + (dr' - dr) = dr' := by omega
  simp only [Sort.grow, World.drewN, e1, e2]
theorem beforeGN_any (a b : Adr) (w : World) (ha : a.ok) (hb : b.ok) :
    Calls Try.prog 73 #[.agg #[.bool a.v6, .int .u64 a.hi, .int .u64 a.lo], .agg #[.bool b.v6, .int .u64 b.hi, .int .u64 b.lo]] w fun e w' => e = .returned (.bool (lessA a b)) ∧ Gw w w' := by
  by_cases hv : a.v6 = b.v6
  · obtain ⟨v1, v2, v3⟩ := bby hv
    by_cases hh : a.hi = b.hi
    · have E : Hid (lessA a b = decide (a.lo < b.lo)) := Lib.hid (by unfold lessA; rw [if_pos hv, if_pos hh])
      obtain ⟨i1, i2⟩ := iiy hh
      clear hv hh
      go_enter Try.func73, Try.ntmps73
      go_wp2
      go_ret
      exact ⟨ret_b E.out.symm, Gw.two _ _ _⟩
    · have E : Hid (lessA a b = decide (a.hi < b.hi)) := Lib.hid (by unfold lessA; rw [if_pos hv, if_neg hh])
      obtain ⟨i1, i2⟩ := iin hh
      clear hv hh
      go_enter Try.func73, Try.ntmps73
      go_wp2
      go_ret
      exact ⟨ret_b E.out.symm, Gw.two _ _ _⟩
  · obtain ⟨v1, v2, v3⟩ := bbn hv
    have E : Hid (lessA a b = b.v6) := Lib.hid (by unfold lessA; rw [if_neg hv])
    clear hv
    go_enter Try.func73, Try.ntmps73
    go_wp2
    go_ret
    exact ⟨ret_b E.out.symm, Gw.two _ _ _⟩
theorem compareAN_any (a b : Adr) (w : World) (ha : a.ok) (hb : b.ok) :
    Calls Try.prog 59 #[.agg #[.bool a.v6, .int .u64 a.hi, .int .u64 a.lo], .agg #[.bool b.v6, .int .u64 b.hi, .int .u64 b.lo]] w fun e w' => e = .returned (.int .i64 (cmpA a b)) ∧ Gw w w' := by
  have EQ := fun W => eqAdr a b W
  cases hs : sameA a b
  · rw [hs] at EQ
    have BE := Lib.hid (beforeGN_any a b)
    cases hl : lessA a b
    · have E : Hid (cmpA a b = 1) := Lib.hid (by unfold cmpA; rw [hs, hl]; rfl)
      rw [hl] at BE
      clear hs hl
      go_enter Try.func59, Try.ntmps59
      go_wp2_with fail
      refine (BE.out _ ha hb).mono ?_
      rintro e w1 ⟨rfl, hb1⟩
      go_wp2_with fail
      go_ret
      exact ⟨ret_i E.out.symm, (Gw.two _ _ _).trans hb1⟩
    · have E : Hid (cmpA a b = -1) := Lib.hid (by unfold cmpA; rw [hs, hl]; rfl)
      rw [hl] at BE
      clear hs hl
      go_enter Try.func59, Try.ntmps59
      go_wp2_with fail
      refine (BE.out _ ha hb).mono ?_
      rintro e w1 ⟨rfl, hb1⟩
      go_wp2_with fail
      go_ret
      exact ⟨ret_i E.out.symm, (Gw.two _ _ _).trans hb1⟩
  · rw [hs] at EQ
    have E : Hid (cmpA a b = 0) := Lib.hid (by unfold cmpA; rw [hs]; rfl)
    clear hs
    go_enter Try.func59, Try.ntmps59
    go_wp2_with fail
    go_ret
    exact ⟨ret_i E.out.symm, Gw.two _ _ _⟩
set_option linter.unusedVariables false
abbrev SNG (x y : Net) (w w' : World) : Prop := w'.cell? ⟨w.heap.size, 0, none⟩ = some (.bool x.a.v6) ∧ w'.cell? ⟨w.heap.size, 1, none⟩ = some (.int .u64 x.a.hi) ∧ w'.cell? ⟨w.heap.size, 2, none⟩ = some (.int .u64 x.a.lo) ∧ w'.cell? ⟨w.heap.size, 3, none⟩ = some (.int .i64 x.n) ∧ w'.cell? ⟨w.heap.size + 1, 0, none⟩ = some (.bool y.a.v6) ∧ w'.cell? ⟨w.heap.size + 1, 1, none⟩ = some (.int .u64 y.a.hi) ∧ w'.cell? ⟨w.heap.size + 1, 2, none⟩ = some (.int .u64 y.a.lo) ∧ w'.cell? ⟨w.heap.size + 1, 3, none⟩ = some (.int .i64 y.n) ∧ Gw (((w.alloc (.cells #[.bool x.a.v6, .int .u64 x.a.hi, .int .u64 x.a.lo, .int .i64 x.n] 43)).alloc (.cells #[.bool y.a.v6, .int .u64 y.a.hi, .int .u64 y.a.lo, .int .i64 y.n] 43))) w'
theorem SNG.of {x y : Net} {w w' : World} (h : Gw ((w.alloc (.cells #[.bool x.a.v6, .int .u64 x.a.hi, .int .u64 x.a.lo, .int .i64 x.n] 43)).alloc (.cells #[.bool y.a.v6, .int .u64 y.a.hi, .int .u64 y.a.lo, .int .i64 y.n] 43)) w') : SNG x y w w' := by
  have h0 : Blk w' w.heap.size 43 [.bool x.a.v6, .int .u64 x.a.hi, .int .u64 x.a.lo, .int .i64 x.n] := ((Blk.new w #[.bool x.a.v6, .int .u64 x.a.hi, .int .u64 x.a.lo, .int .i64 x.n] 43).alloc (.cells #[.bool y.a.v6, .int .u64 y.a.hi, .int .u64 y.a.lo, .int .i64 y.n] 43)).on h.1
  have h1 : Blk w' (w.heap.size + 1) 43 [.bool y.a.v6, .int .u64 y.a.hi, .int .u64 y.a.lo, .int .i64 y.n] := (Blk.two w (.cells #[.bool x.a.v6, .int .u64 x.a.hi, .int .u64 x.a.lo, .int .i64 x.n] 43) #[.bool y.a.v6, .int .u64 y.a.hi, .int .u64 y.a.lo, .int .i64 y.n] 43).on h.1
  exact ⟨h0.cell (j := 0) rfl, h0.cell (j := 1) rfl, h0.cell (j := 2) rfl, h0.cell (j := 3) rfl, h1.cell (j := 0) rfl, h1.cell (j := 1) rfl, h1.cell (j := 2) rfl, h1.cell (j := 3) rfl, h⟩
theorem SNG.on {x y : Net} {w w1 w2 : World} (h : SNG x y w w1) (k : Gw w1 w2) : SNG x y w w2 := SNG.of (h.2.2.2.2.2.2.2.2.trans k)
theorem SNG.low {x y : Net} {w w1 : World} (h : SNG x y w w1) : Gw w w1 := (Gw.two _ _ _).trans h.2.2.2.2.2.2.2.2
end Go.Proofs.Ytgnjbbohphoojaa.Sp
/- The iterator over those that take a group: its contract, whatever the loop that ranges over it. -/
namespace Go.Proofs.Ytgnjbbohphoojaa.Sp
set_option maxRecDepth 100000
open Go.ChangeShapes Go.WideShapes Go.ChangeAt Go.RowKit
open Go.Shelf
open Pe Et Ra Bo
open Dec Words V4 V6 Ad Ci En Gr Go.Deep
set_option linter.unusedVariables false
attribute [local go_sem] Oper.semAt_some
/-- What the iterator may do to the world that the caller's invariant speaks of: new blocks alone. -/
theorem abide {β : Type} {B : Nat} {J : β → World → Prop} (h : AbidesFrom B J) {s : β} {a b : World} (hs : J s a) (k : Below a.heap.size a b) : J s b :=
  h s a b none hs ⟨k.os, k.tape, k.output, k.size, fun i hi _ => k.block i hi⟩ (fun r e => by cases e)
set_option maxHeartbeats 8000000 in
theorem groups1_in (F : Fence) (hF : F = Fence.wide) (n : Nat) (hn : 1 ≤ n) (l B1 B2 : Nat) (vp vb : Value) (L : List Pe.Pr) (b : List Ey) (w : World) (hP : Peers w vp L) (hE : Books w vb b) (hl : L.length ≤ 1000000) (hbl : b.length ≤ 1000000)
    (hok : ∀ x ∈ L, x.ok) (hyo : ∀ y ∈ b, y.ok) (hB1 : B1 < w.heap.size) (hB2 : B2 < w.heap.size) (hc1 : w.cell? ⟨B1, 0, none⟩ = some vp) (hc2 : w.cell? ⟨B2, 0, none⟩ = some vb) (J Jx : List Net → World → Prop) (W : World) (hW : Below w.heap.size w W) (hJ : AbidesFrom W.heap.size J)
    (hY : ∀ pre x W1, J pre W1 → pre.length < (takL L b).length → YieldAt F (n - 1) Try.prog l #[.agg #[.bool x.a.v6, .int .u64 x.a.hi, .int .u64 x.a.lo, .int .i64 x.n]] W1 fun e W' =>
      (e = .returned (.bool true) ∧ J (pre ++ [x]) W' ∧ Below w.heap.size W1 W') ∨ (e = .returned (.bool false) ∧ Jx (pre ++ [x]) W'))
    (h0 : J [] W) :
    CallsIn F n Try.prog 67 #[.func (.yield l) #[] #[], .pointer (some ⟨B1, 0, none⟩), .pointer (some ⟨B2, 0, none⟩)] W fun e W' => (∃ v, e = .returned v) ∧
      ((∃ xs, xs = takL L b ∧ J xs W') ∨ (∃ pre, pre <+: takL L b ∧ Jx pre W')) := by
  have hfn : ∀ f, F.fn f := fun f => by rw [hF]; trivial
  have hro : F.round = none := by rw [hF]; rfl
  have KG : Hid (∀ (m : Nat) (a : Adr) (V : World), a.ok → CallsIn F m Try.prog 45 #[.agg #[.bool a.v6, .int .u64 a.hi, .int .u64 a.lo]] V fun e w' => e = .returned (.agg #[.bool (groupN a).a.v6, .int .u64 (groupN a).a.hi, .int .u64 (groupN a).a.lo, .int .i64 (groupN a).n]) ∧ Below V.heap.size V w') := Lib.hid fun m a V ha => by rw [hF]; exact callsIn_wide.2 (groupOf_any a V ha)
  clear hF
  have HJ := Lib.hid fun (s : List Net) (a c : World) (hs : J s a) (k : Below a.heap.size a c) => abide hJ hs k
  have HY := Lib.hid hY
  have HC2 := Lib.hid (show (∀ V, Below w.heap.size w V → V.cell? ⟨B2, 0, none⟩ = some vb) from fun V k => (k.cell (p := ⟨B2, 0, none⟩) hB2).trans hc2)
  have HOL := Lib.hid hok
  have HOB := Lib.hid hyo
  have HS := Lib.hid (show ∀ V : World, Below w.heap.size w V → w.heap.size ≤ V.heap.size from fun V k => k.size)
  have HW := Lib.hid hW
  have H0 := Lib.hid h0
  have c1 := (hW.cell (p := ⟨B1, 0, none⟩) hB1).trans hc1
  have PB := Lib.hid hE
  obtain ⟨A, cap, rfl, hcap, hnil, hcell⟩ := hP
  have HC := Lib.hid hcell
  obtain ⟨nl, hnl⟩ : ∃ m, m = L.length := ⟨_, rfl⟩
  rw [← hnl] at hl hcap c1
  have HNL := Lib.hid hnl
  clear hY hJ hok hyo hW h0 hE hc1 hc2 hcell hnl hnil
  refine callsIn_of_wp Try.func67 rfl (hfn _) ?_ hro
  simp only [Try.ntmps67, List.size_toArray, List.length_cons, List.length_nil, Nat.reduceAdd, Nat.reduceSub, Array.replicate_succ, Array.replicate_zero, List.push_toArray, List.append_toArray, List.nil_append, List.cons_append]
  gi_wp2_with fail
  gi_loopw [10] (fun vi wr => ∃ i : Nat, vi = .int .i64 i ∧ i ≤ nl ∧ Hid (J (outL (L.take i)) wr) ∧ Hid (Below w.heap.size w wr)) (fun vi _ => nl - (intOf vi).toNat)
  case atStart => exact ⟨0, rfl, Nat.zero_le _, Lib.hid (by simpa [outL] using H0.out), HW⟩
  case round =>
    obtain ⟨i, rfl, hi, HJi, HLi⟩ := hrel
    by_cases hlt : i < nl
    · have hiz : (i : Int) < (nl : Int) := by omega
      have hiL : i < L.length := by have := HNL.out; omega
      obtain ⟨bb, oo, rfl, hb, hcc⟩ := HC.out (by omega)
      obtain ⟨x, hx⟩ : ∃ x, x = L[i]! := ⟨_, rfl⟩
      have c0 : wr.cell? ⟨bb, oo + i * 10, none⟩ = some (.bool x.e.a.v6) := peer_at HLi.out hb hcc hiL (j := 0) (by rw [← hx]; rfl)
      have c1 : wr.cell? ⟨bb, oo + i * 10 + 1, none⟩ = some (.int .u64 x.e.a.hi) := peer_at HLi.out hb hcc hiL (j := 1) (by rw [← hx]; rfl)
      have c2 : wr.cell? ⟨bb, oo + i * 10 + 2, none⟩ = some (.int .u64 x.e.a.lo) := peer_at HLi.out hb hcc hiL (j := 2) (by rw [← hx]; rfl)
      have c3 : wr.cell? ⟨bb, oo + i * 10 + 3, none⟩ = some (.int .i64 x.e.n) := peer_at HLi.out hb hcc hiL (j := 3) (by rw [← hx]; rfl)
      have c4 : wr.cell? ⟨bb, oo + i * 10 + 4, none⟩ = some (.bool x.i) := peer_at HLi.out hb hcc hiL (j := 4) (by rw [← hx]; rfl)
      have c5 : wr.cell? ⟨bb, oo + i * 10 + 5, none⟩ = some (.int .i64 x.t) := peer_at HLi.out hb hcc hiL (j := 5) (by rw [← hx]; rfl)
      have c6 : wr.cell? ⟨bb, oo + i * 10 + 6, none⟩ = some (.int .i64 x.c.p) := peer_at HLi.out hb hcc hiL (j := 6) (by rw [← hx]; rfl)
      have c7 : wr.cell? ⟨bb, oo + i * 10 + 7, none⟩ = some (.int .i64 x.c.a) := peer_at HLi.out hb hcc hiL (j := 7) (by rw [← hx]; rfl)
      have c8 : wr.cell? ⟨bb, oo + i * 10 + 8, none⟩ = some (.int .i64 x.g) := peer_at HLi.out hb hcc hiL (j := 8) (by rw [← hx]; rfl)
      have c9 : wr.cell? ⟨bb, oo + i * 10 + 9, none⟩ = some (.int .i64 x.k) := peer_at HLi.out hb hcc hiL (j := 9) (by rw [← hx]; rfl)
      have HOK : Hid x.e.a.ok := Lib.hid (by rw [hx, getElem!_pos L i hiL]; exact (HOL.out _ (List.getElem_mem _)).1.1)
      have HX := Lib.hid (show x = L[i]! ∧ i < L.length from ⟨hx, hiL⟩)
      clear hx hiL hcc
      by_cases hin : x.i = false
      · have HYW : Hid (∀ w4, Below (wr.alloc (.cells #[.bool x.e.a.v6, .int .u64 x.e.a.hi, .int .u64 x.e.a.lo, .int .i64 x.e.n, .bool false, .int .i64 x.t, .int .i64 x.c.p, .int .i64 x.c.a, .int .i64 x.g, .int .i64 x.k] 50)).heap.size (wr.alloc (.cells #[.bool x.e.a.v6, .int .u64 x.e.a.hi, .int .u64 x.e.a.lo, .int .i64 x.e.n, .bool false, .int .i64 x.t, .int .i64 x.c.p, .int .i64 x.c.a, .int .i64 x.g, .int .i64 x.k] 50)) w4 → YieldAt F (n - 1) Try.prog l #[.agg #[.bool (groupN x.e.a).a.v6, .int .u64 (groupN x.e.a).a.hi, .int .u64 (groupN x.e.a).a.lo, .int .i64 (groupN x.e.a).n]] w4 fun e W' => (e = .returned (.bool true) ∧ J ((outL (L.take i)) ++ [groupN x.e.a]) W' ∧ Below w.heap.size w4 W') ∨ (e = .returned (.bool false) ∧ Jx ((outL (L.take i)) ++ [groupN x.e.a]) W')) := Lib.hid fun w4 hb4 => by
          refine HY.out _ _ _ (HJ.out _ _ _ (HJ.out _ _ _ HJi.out ?_) hb4) ?_
          · exact (Below.refl _ _).alloc (Nat.le_refl _) _
          · have h3 := (tak_out L b (i + 1)).length_le
            rw [out_out HX.out.2 (by rw [← HX.out.1]; exact hin)] at h3
            simp only [List.length_append, List.length_cons, List.length_nil] at h3 ⊢
            omega
        have HN : Hid ((outL (L.take (i + 1))) = (outL (L.take i)) ++ [groupN x.e.a]) := Lib.hid (by rw [out_out HX.out.2 (by rw [← HX.out.1]; exact hin), HX.out.1])
        have HPX : Hid ((outL (L.take i)) ++ [groupN x.e.a] <+: takL L b) := Lib.hid (by rw [← HN.out]; exact tak_out L b (i + 1))
        have HLA : Hid (Below w.heap.size w (wr.alloc (.cells #[.bool x.e.a.v6, .int .u64 x.e.a.hi, .int .u64 x.e.a.lo, .int .i64 x.e.n, .bool false, .int .i64 x.t, .int .i64 x.c.p, .int .i64 x.c.a, .int .i64 x.g, .int .i64 x.k] 50))) := Lib.hid (HLi.out.alloc HLi.out.size _)
        rw [hin] at c4
        clear hin
        gi_wp2_with (first | ((first | refine ⟨trivial, ?_⟩ | skip); gi_at_call 45; refine (KG.out _ _ _ HOK.out).mono ?_; rintro e w4 ⟨rfl, hb4⟩; have HB4 := Lib.hid hb4; clear hb4; obtain ⟨fn, tmps, assign, body, hy, hR⟩ := HYW.out w4 HB4.out) | fail)
        refine hR.mono ?_
        rintro e w5 (⟨rfl, hJ5, hk5⟩ | ⟨rfl, hJx5⟩)
        · have HJ5 := Lib.hid hJ5
          have HL5 : Hid (Below w.heap.size w w5) := Lib.hid (((HLA.out.trans (HB4.out.mono HLA.out.size)).trans hk5))
          clear hJ5 hk5 hy hR
          gi_wp2_with fail
          go_roundw
          case rel => exact ⟨i + 1, by go_num, by omega, Lib.hid (by rw [HN.out]; exact HJ5.out), HL5⟩
          case measure => simp [intOf]; omega
        · clear hy hR
          gi_wp2_with fail
          refine bodyPost_ret (results_none rfl _ _ _) rfl ?_
          exact ⟨⟨_, rfl⟩, .inr ⟨_, HPX.out, hJx5⟩⟩
      · have HN : Hid ((outL (L.take (i + 1))) = (outL (L.take i))) := Lib.hid (by rw [out_in HX.out.2 (by rw [← HX.out.1]; simpa using hin)])
        have HJn : Hid (J (outL (L.take (i + 1))) (wr.alloc (.cells #[.bool x.e.a.v6, .int .u64 x.e.a.hi, .int .u64 x.e.a.lo, .int .i64 x.e.n, .bool true, .int .i64 x.t, .int .i64 x.c.p, .int .i64 x.c.a, .int .i64 x.g, .int .i64 x.k] 50))) := Lib.hid (by rw [HN.out]; exact HJ.out _ _ _ HJi.out ((Below.refl _ _).alloc (Nat.le_refl _) _))
        have HLA : Hid (Below w.heap.size w (wr.alloc (.cells #[.bool x.e.a.v6, .int .u64 x.e.a.hi, .int .u64 x.e.a.lo, .int .i64 x.e.n, .bool true, .int .i64 x.t, .int .i64 x.c.p, .int .i64 x.c.a, .int .i64 x.g, .int .i64 x.k] 50))) := Lib.hid (HLi.out.alloc HLi.out.size _)
        have hin2 : x.i = true := by simpa using hin
        rw [hin2] at c4
        clear hin hin2
        gi_wp2_with fail
        go_roundw
        case rel => exact ⟨i + 1, by go_num, by omega, HJn, HLA⟩
        case measure => simp [intOf]; omega
    · have hiz : ¬ (i : Int) < (nl : Int) := by omega
      have HE : Hid (outL (L.take i) = outL L) := Lib.hid (by rw [List.take_of_length_le (by have := HNL.out; omega)])
      have HJ1 : Hid (J (outL L ++ flyL (b.take 0)) wr) := Lib.hid (by rw [← HE.out]; simpa [flyL] using HJi.out)
      obtain ⟨A2, cap2, e2, hcap2, hnil2, hcell2⟩ := PB.out
      have c2 := HC2.out wr HLi.out
      rw [e2] at c2
      have HC3 := Lib.hid hcell2
      obtain ⟨nb, hnb⟩ : ∃ m, m = b.length := ⟨_, rfl⟩
      rw [← hnb] at hbl hcap2 c2
      have HNB := Lib.hid hnb
      clear e2 hcell2 hnb hnil2
      gi_wp2_with fail
      gi_loopw [29] (fun vi wr => ∃ i : Nat, vi = .int .i64 i ∧ i ≤ nb ∧ Hid (J (outL L ++ flyL (b.take i)) wr) ∧ Hid (Below w.heap.size w wr)) (fun vi _ => nb - (intOf vi).toNat)
      case atStart => exact ⟨0, rfl, Nat.zero_le _, HJ1, HLi⟩
      case round =>
        obtain ⟨i, rfl, hi, HJi, HLi⟩ := hrel
        by_cases hlt : i < nb
        · have hiz : (i : Int) < (nb : Int) := by omega
          have hiL : i < b.length := by have := HNB.out; omega
          obtain ⟨bb, oo, rfl, hb, hcc⟩ := HC3.out (by omega)
          obtain ⟨x, hx⟩ : ∃ x, x = b[i]! := ⟨_, rfl⟩
          have c0 : wr.cell? ⟨bb, oo + i * 7, none⟩ = some (.bool x.e.a.v6) := entry_at HLi.out hb hcc hiL (j := 0) (by rw [← hx]; rfl)
          have c1 : wr.cell? ⟨bb, oo + i * 7 + 1, none⟩ = some (.int .u64 x.e.a.hi) := entry_at HLi.out hb hcc hiL (j := 1) (by rw [← hx]; rfl)
          have c2 : wr.cell? ⟨bb, oo + i * 7 + 2, none⟩ = some (.int .u64 x.e.a.lo) := entry_at HLi.out hb hcc hiL (j := 2) (by rw [← hx]; rfl)
          have c3 : wr.cell? ⟨bb, oo + i * 7 + 3, none⟩ = some (.int .i64 x.e.n) := entry_at HLi.out hb hcc hiL (j := 3) (by rw [← hx]; rfl)
          have c4 : wr.cell? ⟨bb, oo + i * 7 + 4, none⟩ = some (.int .i64 x.st) := entry_at HLi.out hb hcc hiL (j := 4) (by rw [← hx]; rfl)
          have c5 : wr.cell? ⟨bb, oo + i * 7 + 5, none⟩ = some (.int .i64 x.f) := entry_at HLi.out hb hcc hiL (j := 5) (by rw [← hx]; rfl)
          have c6 : wr.cell? ⟨bb, oo + i * 7 + 6, none⟩ = some (.int .i64 x.nx) := entry_at HLi.out hb hcc hiL (j := 6) (by rw [← hx]; rfl)
          have HOK : Hid x.e.a.ok := Lib.hid (by rw [hx, getElem!_pos b i hiL]; exact (HOB.out _ (List.getElem_mem _)).he.1)
          have HX := Lib.hid (show x = b[i]! ∧ i < b.length from ⟨hx, hiL⟩)
          clear hx hiL hcc
          by_cases hin : x.st = 2
          · have HYW : Hid (∀ w4, Below (wr.alloc (.cells #[.bool x.e.a.v6, .int .u64 x.e.a.hi, .int .u64 x.e.a.lo, .int .i64 x.e.n, .int .i64 2, .int .i64 x.f, .int .i64 x.nx] 37)).heap.size (wr.alloc (.cells #[.bool x.e.a.v6, .int .u64 x.e.a.hi, .int .u64 x.e.a.lo, .int .i64 x.e.n, .int .i64 2, .int .i64 x.f, .int .i64 x.nx] 37)) w4 → YieldAt F (n - 1) Try.prog l #[.agg #[.bool (groupN x.e.a).a.v6, .int .u64 (groupN x.e.a).a.hi, .int .u64 (groupN x.e.a).a.lo, .int .i64 (groupN x.e.a).n]] w4 fun e W' => (e = .returned (.bool true) ∧ J ((outL L ++ flyL (b.take i)) ++ [groupN x.e.a]) W' ∧ Below w.heap.size w4 W') ∨ (e = .returned (.bool false) ∧ Jx ((outL L ++ flyL (b.take i)) ++ [groupN x.e.a]) W')) := Lib.hid fun w4 hb4 => by
              refine HY.out _ _ _ (HJ.out _ _ _ (HJ.out _ _ _ HJi.out ?_) hb4) ?_
              · exact (Below.refl _ _).alloc (Nat.le_refl _) _
              · have h3 := (tak_fly L b (i + 1)).length_le
                rw [fly_yes HX.out.2 (by rw [← HX.out.1]; exact hin)] at h3
                simp only [List.length_append, List.length_cons, List.length_nil] at h3 ⊢
                omega
            have HN : Hid ((outL L ++ flyL (b.take (i + 1))) = (outL L ++ flyL (b.take i)) ++ [groupN x.e.a]) := Lib.hid (by rw [fly_yes HX.out.2 (by rw [← HX.out.1]; exact hin), HX.out.1, List.append_assoc])
            have HPX : Hid ((outL L ++ flyL (b.take i)) ++ [groupN x.e.a] <+: takL L b) := Lib.hid (by rw [← HN.out]; exact tak_fly L b (i + 1))
            have HLA : Hid (Below w.heap.size w (wr.alloc (.cells #[.bool x.e.a.v6, .int .u64 x.e.a.hi, .int .u64 x.e.a.lo, .int .i64 x.e.n, .int .i64 2, .int .i64 x.f, .int .i64 x.nx] 37))) := Lib.hid (HLi.out.alloc HLi.out.size _)
            rw [hin] at c4
            clear hin
            gi_wp2_with (first | ((first | refine ⟨trivial, ?_⟩ | skip); gi_at_call 45; refine (KG.out _ _ _ HOK.out).mono ?_; rintro e w4 ⟨rfl, hb4⟩; have HB4 := Lib.hid hb4; clear hb4; obtain ⟨fn, tmps, assign, body, hy, hR⟩ := HYW.out w4 HB4.out) | fail)
            refine hR.mono ?_
            rintro e w5 (⟨rfl, hJ5, hk5⟩ | ⟨rfl, hJx5⟩)
            · have HJ5 := Lib.hid hJ5
              have HL5 : Hid (Below w.heap.size w w5) := Lib.hid (((HLA.out.trans (HB4.out.mono HLA.out.size)).trans hk5))
              clear hJ5 hk5 hy hR
              gi_wp2_with fail
              go_roundw
              case rel => exact ⟨i + 1, by go_num, by omega, Lib.hid (by rw [HN.out]; exact HJ5.out), HL5⟩
              case measure => simp [intOf]; omega
            · clear hy hR
              gi_wp2_with fail
              refine bodyPost_ret (results_none rfl _ _ _) rfl ?_
              exact ⟨⟨_, rfl⟩, .inr ⟨_, HPX.out, hJx5⟩⟩
          · have HN : Hid ((outL L ++ flyL (b.take (i + 1))) = (outL L ++ flyL (b.take i))) := Lib.hid (by rw [fly_no HX.out.2 (by rw [← HX.out.1]; exact hin)])
            have HJn : Hid (J (outL L ++ flyL (b.take (i + 1))) (wr.alloc (.cells #[.bool x.e.a.v6, .int .u64 x.e.a.hi, .int .u64 x.e.a.lo, .int .i64 x.e.n, .int .i64 x.st, .int .i64 x.f, .int .i64 x.nx] 37))) := Lib.hid (by rw [HN.out]; exact HJ.out _ _ _ HJi.out ((Below.refl _ _).alloc (Nat.le_refl _) _))
            have HLA : Hid (Below w.heap.size w (wr.alloc (.cells #[.bool x.e.a.v6, .int .u64 x.e.a.hi, .int .u64 x.e.a.lo, .int .i64 x.e.n, .int .i64 x.st, .int .i64 x.f, .int .i64 x.nx] 37))) := Lib.hid (HLi.out.alloc HLi.out.size _)
            have hin2 : (x.st == 2) = false := by simpa using hin
            gi_wp2_with fail
            go_roundw
            case rel => exact ⟨i + 1, by go_num, by omega, HJn, HLA⟩
            case measure => simp [intOf]; omega
        · have hiz : ¬ (i : Int) < (nb : Int) := by omega
          have HE : Hid (outL L ++ flyL (b.take i) = takL L b) := Lib.hid (by rw [List.take_of_length_le (by have := HNB.out; omega)]; rfl)
          gi_wp2_with fail
          go_end0
          exact ⟨⟨_, rfl⟩, .inl (by rw [← HE.out]; exact HJi.out)⟩
end Go.Proofs.Ytgnjbbohphoojaa.Sp
namespace Go.Proofs.Ytgnjbbohphoojaa.Sp
set_option maxRecDepth 100000
open Go.ChangeShapes Go.WideShapes Go.ChangeAt Go.RowKit
open Go.Shelf
open Pe Et Ra Bo
open Dec Words V4 V6 Ad Ci En Gr Go.Deep
set_option linter.unusedVariables false
attribute [local go_sem] Oper.semAt_some
theorem blk_own {W W' : World} {row : Option Nat} {b : Nat} {t : TypeId} {vs : List Value} (h : Blk W b t vs) (hg : W.grownBy W' row) (hr : ∀ r, row = some r → ∃ o : Obj, W.heap[r]? = some o ∧ o.isCells = false) : Blk W' b t vs :=
  (hg.block b h.lt (fun e => by
    obtain ⟨o, ho, hc⟩ := hr b e.symm
    rw [show W.heap[b]? = _ from h] at ho
    cases ho
    cases hc)).trans h
theorem groups_any (A1 A2 : Option Addr) (n1 c1 n2 c2 : Nat) (w : World) :
    Calls Try.prog 46 #[.slice A1 n1 c1, .slice A2 n2 c2] w fun e w' => ∃ B1 B2, e = .returned (.func (.func 67) #[] #[.pointer (some ⟨B1, 0, none⟩), .pointer (some ⟨B2, 0, none⟩)]) ∧ Below w.heap.size w w' ∧ B1 < w'.heap.size ∧ B2 < w'.heap.size ∧
      w'.cell? ⟨B1, 0, none⟩ = some (.slice A1 n1 c1) ∧ w'.cell? ⟨B2, 0, none⟩ = some (.slice A2 n2 c2) := by
  go_enter Try.func46, Try.ntmps46
  go_wp2_with fail
  go_ret
  exact ⟨_, _, rfl, ((Below.refl _ _).alloc (Nat.le_refl _) _).alloc (by simp) _, by simp; omega, by simp, by simp [go_sem], by simp [go_sem]⟩
/-- What groups hands over is an iterator over those that take a group. -/
theorem groups_stops (m : Nat) (hm : 1 ≤ m) (vp vb : Value) (L : List Pe.Pr) (b : List Ey) (w : World) (hP : Peers w vp L) (hE : Books w vb b) (hl : L.length ≤ 400000) (hbl : b.length ≤ 400000) (hok : ∀ x ∈ L, x.ok) (hyo : ∀ y ∈ b, y.ok) (B1 B2 : Nat)
    (hB1 : B1 < w.heap.size) (hB2 : B2 < w.heap.size) (hc1 : w.cell? ⟨B1, 0, none⟩ = some vp) (hc2 : w.cell? ⟨B2, 0, none⟩ = some vb) :
    SeqStopsK Fence.wide m Try.prog 67 #[.pointer (some ⟨B1, 0, none⟩), .pointer (some ⟨B2, 0, none⟩)] (fun x => #[.agg #[.bool x.a.v6, .int .u64 x.a.hi, .int .u64 x.a.lo, .int .i64 x.n]]) (Below w.heap.size) (fun xs => xs = takL L b) (fun pre => pre <+: takL L b) (takL L b).length w :=
  fun l J Jx W hW hJ _ hY h0 => groups1_in Fence.wide rfl m hm l B1 B2 vp vb L b w hP hE (by omega) (by omega) hok hyo hB1 hB2 hc1 hc2 J Jx W hW hJ hY h0
end Go.Proofs.Ytgnjbbohphoojaa.Sp
/- Is an address's group free? -/
namespace Go.Proofs.Ytgnjbbohphoojaa.Sp
set_option maxRecDepth 100000
open Go.ChangeShapes Go.WideShapes Go.ChangeAt Go.RowKit
open Go.Shelf
open Pe Et Ra Bo
open Dec Words V4 V6 Ad Ci En Gr Go.Deep
set_option linter.unusedVariables false
attribute [local go_sem] Oper.semAt_some
set_option maxHeartbeats 8000000 in
theorem freeN_any (vp vb : Value) (L : List Pe.Pr) (b : List Ey) (a : Adr) (w : World) (hP : Peers w vp L) (hE : Books w vb b) (hl : L.length ≤ 400000) (hbl : b.length ≤ 400000) (hok : ∀ x ∈ L, x.ok) (hyo : ∀ y ∈ b, y.ok) (ha : a.ok) :
    Calls Try.prog 31 #[vp, vb, .agg #[.bool a.v6, .int .u64 a.hi, .int .u64 a.lo]] w fun e w' => e = .returned (.bool (freeR L b a)) ∧ Below w.heap.size w w' := by
  have HP := Lib.hid hP
  have HE := Lib.hid hE
  have HO := Lib.hid (show (∀ x ∈ L, x.ok) ∧ (∀ y ∈ b, y.ok) ∧ L.length ≤ 400000 ∧ b.length ≤ 400000 from ⟨hok, hyo, hl, hbl⟩)
  obtain ⟨A1, c1, rfl, _, _, _⟩ := hP
  obtain ⟨A2, c2, rfl, _, _, _⟩ := hE
  obtain ⟨n1, hn1⟩ : ∃ m, m = L.length := ⟨_, rfl⟩
  obtain ⟨n2, hn2⟩ : ∃ m, m = b.length := ⟨_, rfl⟩
  rw [← hn1] at HP ⊢
  rw [← hn2] at HE ⊢
  clear hok hyo hl hbl hn1 hn2
  refine (callsIn_wide (n := 8)).1 ?_
  obtain ⟨n, hn⟩ : ∃ n, n = 8 := ⟨_, rfl⟩
  obtain ⟨F, hF⟩ : ∃ F, F = Fence.wide := ⟨_, rfl⟩
  rw [← hF, ← hn]
  have h1 : 1 ≤ n := by omega
  have hn3 : 3 ≤ n := by omega
  clear hn
  have hfn : ∀ f, F.fn f := fun f => by rw [hF]; trivial
  have hro : F.round = none := by rw [hF]; rfl
  have KR : Hid (∀ (m : Nat) (V : World), CallsIn F m Try.prog 44 #[.agg #[.bool a.v6, .int .u64 a.hi, .int .u64 a.lo]] V fun e w' => e = .returned (.bool (rightA a)) ∧ Below V.heap.size V w') := Lib.hid fun m V => by rw [hF]; exact callsIn_wide.2 (right_any a V ha)
  have KO : Hid (∀ (m : Nat) (V : World), CallsIn F m Try.prog 45 #[.agg #[.bool a.v6, .int .u64 a.hi, .int .u64 a.lo]] V fun e w' => e = .returned (.agg #[.bool (groupN a).a.v6, .int .u64 (groupN a).a.hi, .int .u64 (groupN a).a.lo, .int .i64 (groupN a).n]) ∧ Below V.heap.size V w') := Lib.hid fun m V => by rw [hF]; exact callsIn_wide.2 (groupOf_any a V ha)
  have KG : Hid (∀ (m : Nat) (V : World), CallsIn F m Try.prog 46 #[.slice A1 n1 c1, .slice A2 n2 c2] V fun e w' => ∃ B1 B2, e = .returned (.func (.func 67) #[] #[.pointer (some ⟨B1, 0, none⟩), .pointer (some ⟨B2, 0, none⟩)]) ∧ Below V.heap.size V w' ∧ B1 < w'.heap.size ∧ B2 < w'.heap.size ∧
      w'.cell? ⟨B1, 0, none⟩ = some (.slice A1 n1 c1) ∧ w'.cell? ⟨B2, 0, none⟩ = some (.slice A2 n2 c2)) := Lib.hid fun m V => by rw [hF]; exact callsIn_wide.2 (groups_any A1 A2 n1 c1 n2 c2 V)
  have HST : Hid (∀ (V : World) (B1 B2 : Nat), Below w.heap.size w V → B1 < V.heap.size → B2 < V.heap.size → V.cell? ⟨B1, 0, none⟩ = some (.slice A1 n1 c1) → V.cell? ⟨B2, 0, none⟩ = some (.slice A2 n2 c2) →
      SeqStopsK F (n - 1) Try.prog 67 #[.pointer (some ⟨B1, 0, none⟩), .pointer (some ⟨B2, 0, none⟩)] (fun x => #[.agg #[.bool x.a.v6, .int .u64 x.a.hi, .int .u64 x.a.lo, .int .i64 x.n]]) (Below V.heap.size) (fun xs => xs = takL L b) (fun pre => pre <+: takL L b) (takL L b).length V) := Lib.hid fun V B1 B2 hb l1 l2 d1 d2 => by
    obtain ⟨ho1, ho2, ho3, ho4⟩ := HO.out
    rw [hF]
    exact groups_stops (n - 1) (by omega) _ _ L b V (HP.out.below hb) (HE.out.below hb) ho3 ho4 ho1 ho2 B1 B2 l1 l2 d1 d2
  clear hF
  have HF : Hid (∀ V, Below (((w.alloc (.cells #[.bool a.v6, .int .u64 a.hi, .int .u64 a.lo] 31)).alloc (.cells #[.bool false] 4))).heap.size ((w.alloc (.cells #[.bool a.v6, .int .u64 a.hi, .int .u64 a.lo] 31)).alloc (.cells #[.bool false] 4)) V → Blk V w.heap.size 31 [.bool a.v6, .int .u64 a.hi, .int .u64 a.lo] ∧ Blk V (w.heap.size + 1) 4 [.bool false] ∧ Below w.heap.size w V) := Lib.hid fun V k =>
    ⟨((Blk.new w #[.bool a.v6, .int .u64 a.hi, .int .u64 a.lo] 31).alloc _).on k, (Blk.two w (.cells #[.bool a.v6, .int .u64 a.hi, .int .u64 a.lo] 31) #[.bool false] 4).on k, (((Below.refl _ _).alloc (Nat.le_refl _) _).alloc (by simp) _).trans (k.mono (by simp; omega))⟩
  obtain ⟨HB5, HB6, HL0⟩ := HF.out _ (Below.refl _ _)
  have z6 := HB6.cell (j := 0) rfl
  have f6 := HB6.free 0
  cases hr : rightA a
  · have E : Hid (freeR L b a = false) := Lib.hid (free_wrong hr)
    rw [hr] at KR
    clear hr
    refine callsIn_of_wp_marks Try.func31 rfl (hfn _) ?_ hro
    simp only [Try.ntmps31, List.size_toArray, List.length_cons, List.length_nil, Nat.reduceAdd, Nat.reduceSub, Array.replicate_succ, Array.replicate_zero, List.push_toArray, List.append_toArray, List.nil_append, List.cons_append]
    gi_wp2_with (first | (gi_at_call 44; refine (KR.out _ _).mono ?_; rintro e w1 ⟨rfl, hb1⟩; obtain ⟨HC5, HC6, HL1⟩ := HF.out _ hb1; have z7 := HC6.cell (j := 0) rfl; have f7 := HC6.free 0) | fail)
    have hc5 := (HC6.set 0 (.bool false)).cell (j := 0) rfl
    refine ⟨.bool false, ?_, by rw [E.out], HL1.setCell (p := ⟨w.heap.size + 1, 0, none⟩) (by simp) _⟩
    simp [results, Try.results31, go_sem, hc5]
  · have HRA := Lib.hid hr
    rw [hr] at KR
    clear hr
    refine callsIn_of_wp_marks Try.func31 rfl (hfn _) ?_ hro
    simp only [Try.ntmps31, List.size_toArray, List.length_cons, List.length_nil, Nat.reduceAdd, Nat.reduceSub, Array.replicate_succ, Array.replicate_zero, List.push_toArray, List.append_toArray, List.nil_append, List.cons_append]
    gi_wp2_with (first
      | (gi_at_call 44; refine (KR.out _ _).mono ?_; rintro e w1 ⟨rfl, hb1⟩; obtain ⟨HC5, HC6, HL1⟩ := HF.out _ hb1; have x0 := HC5.cell (j := 0) rfl; have x1 := HC5.cell (j := 1) rfl; have x2 := HC5.cell (j := 2) rfl)
      | (gi_at_call 45; refine (KO.out _ _).mono ?_; rintro e w2 ⟨rfl, hb2⟩)
      | (gi_at_call 46; refine (KG.out _ _).mono ?_; rintro e w4 ⟨B1, B2, rfl, hb4, l1, l2, d1, d2⟩)
      | fail)
    have HB1 := Lib.hid (show Below (((w.alloc (.cells #[.bool a.v6, .int .u64 a.hi, .int .u64 a.lo] 31)).alloc (.cells #[.bool false] 4))).heap.size ((w.alloc (.cells #[.bool a.v6, .int .u64 a.hi, .int .u64 a.lo] 31)).alloc (.cells #[.bool false] 4)) w4 ∧ Blk w4 w2.heap.size 43 [.bool (groupN a).a.v6, .int .u64 (groupN a).a.hi, .int .u64 (groupN a).a.lo, .int .i64 (groupN a).n] ∧ Below w.heap.size w w4 from by
      have k1 : Below (((w.alloc (.cells #[.bool a.v6, .int .u64 a.hi, .int .u64 a.lo] 31)).alloc (.cells #[.bool false] 4))).heap.size ((w.alloc (.cells #[.bool a.v6, .int .u64 a.hi, .int .u64 a.lo] 31)).alloc (.cells #[.bool false] 4)) w2 := low_trans hb1 hb2
      have k2 : Below (((w.alloc (.cells #[.bool a.v6, .int .u64 a.hi, .int .u64 a.lo] 31)).alloc (.cells #[.bool false] 4))).heap.size ((w.alloc (.cells #[.bool a.v6, .int .u64 a.hi, .int .u64 a.lo] 31)).alloc (.cells #[.bool false] 4)) w4 := low_trans (k1.alloc k1.size (.cells #[.bool (groupN a).a.v6, .int .u64 (groupN a).a.hi, .int .u64 (groupN a).a.lo, .int .i64 (groupN a).n] 43)) hb4
      exact ⟨k2, (Blk.new w2 #[.bool (groupN a).a.v6, .int .u64 (groupN a).a.hi, .int .u64 (groupN a).a.lo, .int .i64 (groupN a).n] 43).on hb4, (HF.out _ k2).2.2⟩)
    obtain ⟨HD5, HD6, HL4⟩ := HF.out _ HB1.out.1
    have hseq := HST.out w4 B1 B2 HL4 l1 l2 d1 d2
    have HQ := Lib.hid (show w.heap.size + 1 < w4.heap.size ∧ w2.heap.size < w4.heap.size from ⟨HD6.lt, HB1.out.2.1.lt⟩)
    clear KR KO KG HST HF hb1 hb2 hb4 l1 l2 d1 d2 z6 f6 HB5 HB6 HL0 x0 x1 x2 HC5 HC6 HL1
    refine wpIn_rangeFunc_ownH (F := F) (n := n) (P := Try.prog) hro h1 (gf := 67) (lb := #[.pointer (some ⟨B1, 0, none⟩), .pointer (some ⟨B2, 0, none⟩)]) rfl (hfn _) (enters_of Try.func67 (by kernel_rfl) rfl) hseq (fun h k => h.trans k) (belowK_b (Nat.le_refl _)) (Below.refl _ _) (fun _ => rfl)
      (fun pre W => (∀ g ∈ pre, sameN g (groupN a) = false) ∧ Below w4.heap.size w4 W)
      (fun c pre W => c = .ret ∧ (∃ xs g, pre = xs ++ [g] ∧ sameN g (groupN a) = true) ∧ W.cell? ⟨w.heap.size + 1, 0, none⟩ = some (.bool false) ∧ Below w.heap.size w W)
      (OwnFrom.and (ownFrom_pure _ _) (ownFrom_below (Nat.le_refl _) (Nat.le_refl _)))
      (fun c s A B row hs hg hr => ⟨hs.1, hs.2.1, cell_kept hs.2.2.1 hg (fun r e => (hr r e).2), hs.2.2.2.grown hg hs.2.2.2.size (fun k e => Nat.le_trans HL4.size (hr k e).1)⟩)
      ⟨fun g hg => by simp at hg, Below.refl _ _⟩
      (fun x a' W => ∃ Bx, w4.heap.size ≤ Bx ∧ Blk W Bx 43 (encM x) ∧ a' = { tmps := #[.slice A1 n1 c1, .slice A2 n2 c2, .agg #[.bool a.v6, .int .u64 a.hi, .int .u64 a.lo], undef, undef, .pointer (some ⟨w.heap.size, 0, none⟩), .pointer (some ⟨w.heap.size + 1, 0, none⟩), .pointer (some ⟨w2.heap.size, 0, none⟩), .pointer (some ⟨Bx, 0, none⟩), .agg #[.bool a.v6, .int .u64 a.hi, .int .u64 a.lo], .bool true, .bool false, .agg #[.bool a.v6, .int .u64 a.hi, .int .u64 a.lo], .agg #[.bool (groupN a).a.v6, .int .u64 (groupN a).a.hi, .int .u64 (groupN a).a.lo, .int .i64 (groupN a).n], .slice A1 n1 c1, .slice A2 n2 c2, .func (.func 67) #[] #[.pointer (some ⟨B1, 0, none⟩), .pointer (some ⟨B2, 0, none⟩)], .agg #[.bool x.a.v6, .int .u64 x.a.hi, .int .u64 x.a.lo, .int .i64 x.n], undef, undef, undef], defers := [] })
      (fun x a' _ A B row hs hg hr => by
        obtain ⟨Bx, h2, h3, h4⟩ := hs
        exact ⟨Bx, h2, blk_own h3 hg (fun r e => (hr r e).2), h4⟩) ?assign ?body ?done ?stop
    case assign =>
      rintro l pre x W K ⟨hno, hB⟩ hK
      gi_wp2_with fail
      exact hK _ _ ((KeepsOthers.alloc _ _).from _) ((Below.refl _ W).alloc hB.size _) ⟨hno, hB.alloc hB.size _⟩ ⟨W.heap.size, hB.size, Blk.new W #[.bool x.a.v6, .int .u64 x.a.hi, .int .u64 x.a.lo, .int .i64 x.n] 43, rfl⟩
    case body =>
      rintro l pre x a' W hl ⟨r, hr⟩ ⟨hno, hB⟩ ⟨Bx, hBx, bX, rfl⟩ hlt
      have EN := fun V => eqNet x (groupN a) V
      have hb6 : Blk W (w.heap.size + 1) 4 [.bool false] := HD6.on hB
      have hb7 : Blk W w2.heap.size 43 [.bool (groupN a).a.v6, .int .u64 (groupN a).a.hi, .int .u64 (groupN a).a.lo, .int .i64 (groupN a).n] := HB1.out.2.1.on hB
      have z6 := hb6.cell (j := 0) rfl
      have f6 := hb6.free 0
      have x0 : W.cell? ⟨Bx, 0, none⟩ = some (.bool x.a.v6) := bX.cell (j := 0) rfl
      have x1 : W.cell? ⟨Bx, 1, none⟩ = some (.int .u64 x.a.hi) := bX.cell (j := 1) rfl
      have x2 : W.cell? ⟨Bx, 2, none⟩ = some (.int .u64 x.a.lo) := bX.cell (j := 2) rfl
      have x3 : W.cell? ⟨Bx, 3, none⟩ = some (.int .i64 x.n) := bX.cell (j := 3) rfl
      have y0 : W.cell? ⟨w2.heap.size, 0, none⟩ = some (.bool (groupN a).a.v6) := hb7.cell (j := 0) rfl
      have y1 : W.cell? ⟨w2.heap.size, 1, none⟩ = some (.int .u64 (groupN a).a.hi) := hb7.cell (j := 1) rfl
      have y2 : W.cell? ⟨w2.heap.size, 2, none⟩ = some (.int .u64 (groupN a).a.lo) := hb7.cell (j := 2) rfl
      have y3 : W.cell? ⟨w2.heap.size, 3, none⟩ = some (.int .i64 (groupN a).n) := hb7.cell (j := 3) rfl
      have HZ := Lib.hid (show Blk W (w.heap.size + 1) 4 [.bool false] ∧ (∀ g ∈ pre, sameN g (groupN a) = false) ∧ Below w4.heap.size w4 W from ⟨hb6, hno, hB⟩)
      clear hno hB hb6 hb7 bX
      cases hs : sameN x (groupN a)
      · have HS := Lib.hid hs
        rw [hs] at EN
        clear hs
        gi_wp2_with fail
        exact ⟨KeepsFrom.refl _ _, Below.refl _ _, fun g hg => (List.mem_append.1 hg).elim (HZ.out.2.1 g) (fun e => by rw [List.mem_singleton] at e; rw [e]; exact HS.out), HZ.out.2.2⟩
      · have HS := Lib.hid hs
        rw [hs] at EN
        clear hs
        gi_wp2_with fail
        exact ⟨(KeepsOthers.setCell _ _ _).from _, rfl, ⟨pre, x, rfl, HS.out⟩, (HZ.out.1.set 0 (.bool false)).cell (j := 0) rfl, (HL4.trans (HZ.out.2.2.mono HL4.size)).setCell (p := ⟨w.heap.size + 1, 0, none⟩) (by simp) _⟩
    case done =>
      rintro D xs W hD rfl ⟨hno, hB⟩ hK
      have E : Hid (freeR L b a = true) := Lib.hid (free_yes HRA.out hno)
      have hb6 : Blk W (w.heap.size + 1) 4 [.bool false] := HD6.on hB
      have z6 := hb6.cell (j := 0) rfl
      have f6 := hb6.free 0
      have HZ := Lib.hid (show Blk W (w.heap.size + 1) 4 [.bool false] ∧ Below w4.heap.size w4 W from ⟨hb6, hB⟩)
      clear hno hB hb6
      gi_wp2_with fail
      have hK' := (KeepsOthers.setCell W ⟨w.heap.size + 1, 0, none⟩ (.bool true)).same D _ hK rfl
      refine ⟨by simp, .inl ⟨_, _, rfl, run_takeDeferred hK', ?_⟩⟩
      have hc5 := cell_kept ((HZ.out.1.set 0 (.bool true)).cell (j := 0) rfl) (grownBy_putObj' _ D (.deferred none)) (fun r e => by cases e; exact ⟨_, hK', rfl⟩)
      have hbW : Below w.heap.size w (W.setCell ⟨w.heap.size + 1, 0, none⟩ (.bool true)) := (HL4.trans (HZ.out.2.mono HL4.size)).setCell (p := ⟨w.heap.size + 1, 0, none⟩) (by simp) _
      refine ⟨.bool true, ?_, by rw [E.out], hbW.trans (belowK_b (w := w) (Nat.le_refl _) _ D _ _ (Nat.le_trans HL4.size hD) hK' rfl rfl)⟩
      simp [results, Try.results31, go_sem, hc5]
    case stop =>
      rintro D c pre W hD hpre ⟨rfl, ⟨xs, g, rfl, hs⟩, hc, hbW⟩ hK
      have E : Hid (freeR L b a = false) := Lib.hid (free_no hpre hs)
      clear hs hpre
      gi_wp2_with fail
      refine ⟨by simp, .inl ⟨_, _, rfl, run_takeDeferred hK, ?_⟩⟩
      have hc5 := cell_kept hc (grownBy_putObj' _ D (.deferred none)) (fun r e => by cases e; exact ⟨_, hK, rfl⟩)
      refine ⟨.bool false, ?_, by rw [E.out], hbW.trans (belowK_b (w := w) (Nat.le_refl _) W D _ _ (Nat.le_trans HL4.size hD) hK rfl rfl)⟩
      simp [results, Try.results31, go_sem, hc5]
end Go.Proofs.Ytgnjbbohphoojaa.Sp
