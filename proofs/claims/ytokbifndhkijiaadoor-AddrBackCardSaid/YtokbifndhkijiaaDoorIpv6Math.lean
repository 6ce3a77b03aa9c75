/- Texts of addresses of eight groups, in plain words. -/
import Derived.Test.YtokbifndhkijiaaDoorIpv4Math
namespace Go.Proofs.YtokbifndhkijiaaDoor.V6
open Dec Words V4
/-- What stands between colons; none of an empty text. -/
def parts (l : List UInt8) : List (List UInt8) := if l = [] then [] else cut 58 l
/-- Do two colons stand at i? -/
def two (l : List UInt8) (i : Nat) : Prop := l[i]? = some 58 ∧ l[i + 1]? = some 58
instance (l : List UInt8) (i : Nat) : Decidable (two l i) := by unfold two; infer_instance
/-- What stands ahead of the first two colons, and behind them. -/
def gap : List UInt8 → Option (List UInt8 × List UInt8)
  | [] => none
  | b :: l => if two (b :: l) 0 then some ([], l.drop 1) else (gap l).map fun p => (b :: p.1, p.2)
theorem two_cons (b : UInt8) (l : List UInt8) (i : Nat) : two (b :: l) (i + 1) ↔ two l i := by unfold two; simp
theorem gap_none : ∀ {l : List UInt8}, gap l = none ↔ ∀ i, ¬ two l i
  | [] => by simp [gap, two]
  | b :: l => by
    have ih := gap_none (l := l)
    rw [gap]
    by_cases h : two (b :: l) 0
    · rw [if_pos h]; simp; exact ⟨0, h⟩
    · rw [if_neg h, Option.map_eq_none_iff, ih]
      constructor
      · intro h2 i
        cases i with
        | zero => exact h
        | succ i => rw [two_cons]; exact h2 i
      · intro h2 i
        have := h2 (i + 1)
        rwa [two_cons] at this
theorem gap_some : ∀ {l b a : List UInt8}, gap l = some (b, a) ↔ l = b ++ 58 :: 58 :: a ∧ ∀ i, i < b.length → ¬ two l i
  | [], b, a => by simp [gap]
  | c :: l, b, a => by
    have ih := fun b => gap_some (l := l) (b := b) (a := a)
    rw [gap]
    by_cases h : two (c :: l) 0
    · rw [if_pos h]
      have h' := h
      unfold two at h'
      simp at h'
      obtain ⟨rfl, h2⟩ := h'
      cases l with
      | nil => simp at h2
      | cons d l =>
        simp at h2; subst h2
        simp
        constructor
        · rintro ⟨rfl, rfl⟩; simp
        · rintro ⟨e, h3⟩
          cases b with
          | nil => simp at e; exact ⟨rfl, e⟩
          | cons x b => exact absurd h (h3 0 (by simp))
    · rw [if_neg h]
      simp only [Option.map_eq_some_iff, Prod.mk.injEq, Prod.exists]
      constructor
      · rintro ⟨x, y, hx, rfl, rfl⟩
        obtain ⟨e, h3⟩ := (ih x).1 hx
        refine ⟨by rw [e]; rfl, fun i hi => ?_⟩
        cases i with
        | zero => exact h
        | succ i => rw [two_cons]; exact h3 i (by simpa using hi)
      · rintro ⟨e, h3⟩
        cases b with
        | nil => simp at e; exact absurd (by rw [e.1, e.2]; simp [two]) h
        | cons x b =>
          simp at e
          obtain ⟨rfl, e⟩ := e
          refine ⟨b, a, (ih b).2 ⟨e, fun i hi => ?_⟩, rfl, rfl⟩
          have := h3 (i + 1) (by simpa using hi)
          rwa [two_cons] at this
theorem gap_swap {b a : List UInt8} (a' : List UInt8) (h : gap (b ++ 58 :: 58 :: a) = some (b, a)) : gap (b ++ 58 :: 58 :: a') = some (b, a') := by
  rw [gap_some] at h ⊢
  refine ⟨rfl, fun i hi => ?_⟩
  have := h.2 i hi
  unfold two at this ⊢
  rw [List.getElem?_append_left hi] at this ⊢
  intro h2
  refine this ⟨h2.1, ?_⟩
  by_cases e : i + 1 < b.length
  · rw [List.getElem?_append_left e] at h2 ⊢; exact h2.2
  · have : i + 1 = b.length := by omega
    rw [this, List.getElem?_append_right (Nat.le_refl _)]; simp
/-! The last part, where it is an address of four bytes, as two groups. -/
def hi4 (x : List UInt8) : List UInt8 := hex ((num4 x / 65536 : Nat) : Int)
def lo4 (x : List UInt8) : List UInt8 := hex ((num4 x % 65536 : Nat) : Int)
/-- The last part. -/
def lastP (l : List UInt8) : List UInt8 := (cut 58 l).getLast (cut_ne 58 l)
def spell : List (List UInt8) → List (List UInt8)
  | [] => []
  | [x] => if ok4 x then [hi4 x, lo4 x] else [x]
  | x :: y :: r => x :: spell (y :: r)
def spelled (l : List UInt8) : List UInt8 := if ok4 (lastP l) then l.take (l.length - (lastP l).length) ++ (hi4 (lastP l) ++ 58 :: lo4 (lastP l)) else l
theorem spell_snoc (ps : List (List UInt8)) (x : List UInt8) : spell (ps ++ [x]) = ps ++ spell [x] := by
  induction ps with
  | nil => rfl
  | cons y r ih =>
    cases r with
    | nil => rfl
    | cons z t =>
      show y :: spell (z :: t ++ [x]) = _
      rw [ih]; rfl
theorem spell_append (ps : List (List UInt8)) {qs : List (List UInt8)} (h : qs ≠ []) : spell (ps ++ qs) = ps ++ spell qs := by
  obtain ⟨q, x, rfl⟩ : ∃ q x, qs = q ++ [x] := ⟨qs.dropLast, qs.getLast h, (List.dropLast_concat_getLast h).symm⟩
  rw [← List.append_assoc, spell_snoc, spell_snoc, List.append_assoc]
theorem cut_two (c : UInt8) : ∀ u v : List UInt8, cut c (u ++ c :: v) = cut c u ++ cut c v
  | [], v => cut_hit c v
  | b :: u, v => by
    by_cases e : b = c
    · subst e; rw [List.cons_append, cut_hit, cut_hit, cut_two b u v]; rfl
    · obtain ⟨x, r, e1, e2⟩ := cut_off e u
      obtain ⟨y, t, e3, e4⟩ := cut_off e (u ++ c :: v)
      rw [cut_two c u v, e1] at e3
      simp at e3
      obtain ⟨rfl, rfl⟩ := e3
      rw [List.cons_append, e4, e2]; rfl
/-- A text, its last part set apart. -/
theorem last_split (l : List UInt8) : ∃ ps, cut 58 l = ps ++ [lastP l] ∧ (58 : UInt8) ∉ lastP l ∧ ((ps = [] ∧ l = lastP l) ∨ (ps ≠ [] ∧ l = glue 58 ps ++ 58 :: lastP l)) := by
  have e : cut 58 l = (cut 58 l).dropLast ++ [lastP l] := (List.dropLast_concat_getLast (cut_ne 58 l)).symm
  refine ⟨(cut 58 l).dropLast, e, ?_, ?_⟩
  · exact cut_parts 58 l _ (List.getLast_mem _)
  · have g := glue_cut 58 l
    by_cases h : (cut 58 l).dropLast = []
    · left
      rw [e, h] at g
      exact ⟨h, g.symm⟩
    · right
      rw [e, glue_snoc 58 _ h] at g
      exact ⟨h, g.symm⟩
theorem lastP_le (l : List UInt8) : (lastP l).length ≤ l.length := cut_part_le 58 l _ (List.getLast_mem _)
theorem lastP_two (u v : List UInt8) : lastP (u ++ 58 :: v) = lastP v := by
  unfold lastP
  have h := cut_ne 58 v
  simp only [cut_two]
  rw [List.getLast_append_of_ne_nil _ h]
theorem hex_ne {n : Int} (h0 : 0 ≤ n) (h1 : n ≤ 65535) : hex n ≠ [] := by
  unfold hex; rw [if_neg (by omega)]; exact digs_ne _ _
theorem dv58 : dv 58 = 16 := by decide
theorem hex_no58 (n : Int) : (58 : UInt8) ∉ hex n := by
  unfold hex
  by_cases h : n < 0 ∨ 65535 < n
  · rw [if_pos h]; simp
  · rw [if_neg h]
    intro h2
    have := digs_all (b := 16) (by omega) (by omega) _ _ h2
    rw [dv58] at this; omega
theorem hi4_ok (x : List UInt8) : hi4 x ≠ [] ∧ (58 : UInt8) ∉ hi4 x := ⟨hex_ne (by omega) (by have := num4_lt x; omega), hex_no58 _⟩
theorem lo4_ok (x : List UInt8) : lo4 x ≠ [] ∧ (58 : UInt8) ∉ lo4 x := ⟨hex_ne (by omega) (by omega), hex_no58 _⟩
theorem spelled_two (u v : List UInt8) : spelled (u ++ 58 :: v) = u ++ 58 :: spelled v := by
  unfold spelled
  rw [lastP_two]
  have h := lastP_le v
  by_cases e : ok4 (lastP v) = true
  · rw [if_pos e, if_pos e]
    have e2 : (u ++ 58 :: v).length - (lastP v).length = u.length + (1 + (v.length - (lastP v).length)) := by simp; omega
    rw [e2, List.take_append, List.take_of_length_le (by omega), Nat.add_sub_cancel_left, Nat.add_comm 1, List.take_succ_cons]
    simp
  · rw [if_neg e, if_neg e]
theorem cut_spelled (l : List UInt8) : cut 58 (spelled l) = spell (cut 58 l) := by
  obtain ⟨ps, e1, h1, h2⟩ := last_split l
  rw [e1, spell_snoc]
  unfold spelled
  by_cases e : ok4 (lastP l) = true
  · have e3 : spell [lastP l] = [hi4 (lastP l), lo4 (lastP l)] := by rw [spell, if_pos e]
    rw [if_pos e, e3]
    have hA : cut 58 (hi4 (lastP l) ++ 58 :: lo4 (lastP l)) = [hi4 (lastP l), lo4 (lastP l)] := by
      rw [cut_two, cut_none (hi4_ok _).2, cut_none (lo4_ok _).2]; rfl
    rcases h2 with ⟨rfl, h2⟩ | ⟨hp, h2⟩
    · have : l.length - (lastP l).length = 0 := by rw [← h2]; omega
      rw [this]; simpa using hA
    · have h3 : l.take (l.length - (lastP l).length) = glue 58 ps ++ [58] := by
        conv => lhs; rw [h2]
        have : (glue 58 ps ++ 58 :: lastP l).length - (lastP (glue 58 ps ++ 58 :: lastP l)).length = (glue 58 ps ++ [58]).length := by
          rw [← h2]
          have := congrArg List.length h2
          simp at this ⊢; omega
        rw [this, show glue 58 ps ++ 58 :: lastP l = (glue 58 ps ++ [58]) ++ lastP l by simp, List.take_left]
      rw [h3, List.append_assoc]
      show cut 58 (glue 58 ps ++ 58 :: (hi4 (lastP l) ++ 58 :: lo4 (lastP l))) = _
      rw [cut_two, hA]
      congr 1
      apply cut_glue hp
      intro x hx
      exact cut_parts 58 l x (by rw [e1]; simp [hx])
  · have e3 : spell [lastP l] = [lastP l] := by rw [spell, if_neg e]
    rw [if_neg e, e3, e1]
theorem ok4_ne {x : List UInt8} (h : ok4 x = true) : x ≠ [] := by rintro rfl; revert h; decide
theorem spelled_nil : spelled [] = [] := by decide +kernel
theorem spelled_eq_nil {l : List UInt8} : spelled l = [] ↔ l = [] := by
  constructor
  · intro h
    unfold spelled at h
    by_cases e : ok4 (lastP l) = true
    · rw [if_pos e] at h; simp at h
    · rwa [if_neg e] at h
  · rintro rfl; exact spelled_nil
theorem parts_spelled (l : List UInt8) : parts (spelled l) = spell (parts l) := by
  unfold parts
  by_cases h : l = []
  · rw [if_pos h, if_pos (spelled_eq_nil.2 h)]; rfl
  · rw [if_neg h, if_neg (fun e => h (spelled_eq_nil.1 e)), cut_spelled]
theorem two_last {l : List UInt8} {i : Nat} (h : two (spelled l) i) : two l i := by
  obtain ⟨ps, e1, h1, h2⟩ := last_split l
  unfold spelled at h
  by_cases e : ok4 (lastP l) = true
  · rw [if_pos e] at h
    obtain ⟨n1, n2⟩ := hi4_ok (lastP l)
    obtain ⟨n3, n4⟩ := lo4_ok (lastP l)
    revert h
    generalize hi4 (lastP l) = a at *
    generalize lo4 (lastP l) = b at *
    have hl := lastP_le l
    unfold two
    have hlen : (l.take (l.length - (lastP l).length)).length = l.length - (lastP l).length := by rw [List.length_take]; omega
    rintro ⟨h3, h4⟩
    have ha : ∀ k : Nat, a[k]? ≠ some 58 := fun k e => n2 (List.mem_of_getElem? e)
    have hb : ∀ k : Nat, b[k]? ≠ some 58 := fun k e => n4 (List.mem_of_getElem? e)
    have ha0 : 0 < a.length := List.length_pos_iff.2 n1
    by_cases c1 : i + 1 < l.length - (lastP l).length
    · rw [List.getElem?_append_left (by omega), List.getElem?_take_of_lt (by omega)] at h3 h4
      exact ⟨h3, h4⟩
    · exfalso
      rw [List.getElem?_append_right (by omega), hlen] at h4
      by_cases c2 : i + 1 - (l.length - (lastP l).length) < a.length
      · rw [List.getElem?_append_left c2] at h4; exact ha _ h4
      · rw [List.getElem?_append_right (by omega)] at h4
        by_cases c3 : i + 1 - (l.length - (lastP l).length) = a.length
        · rw [List.getElem?_append_right (by omega), hlen, List.getElem?_append_left (by omega)] at h3
          exact ha _ h3
        · obtain ⟨k, hk⟩ : ∃ k, i + 1 - (l.length - (lastP l).length) - a.length = k + 1 := ⟨i + 1 - (l.length - (lastP l).length) - a.length - 1, by omega⟩
          rw [hk, List.getElem?_cons_succ] at h4
          exact hb _ h4
  · rwa [if_neg e] at h
theorem gap_spelled_none {l : List UInt8} (h : gap l = none) : gap (spelled l) = none := by
  rw [gap_none] at h ⊢
  exact fun i h2 => h i (two_last h2)
theorem gap_spelled_some {l b a : List UInt8} (h : gap l = some (b, a)) : gap (spelled l) = some (b, spelled a) := by
  have e := (gap_some.1 h).1
  subst e
  rw [show b ++ 58 :: 58 :: a = (b ++ [58]) ++ 58 :: a by simp, spelled_two, List.append_assoc]
  exact gap_swap _ h
/-! The groups that a text tells. -/
def allHex (ps : List (List UInt8)) : Bool := ps.all hexB
def nums (ps : List (List UInt8)) : List Int := ps.map hexN
def val (gs : List Int) : Nat := gs.foldl (fun n g => (65536 * n + g.toNat) % 18446744073709551616) 0
/-- The eight groups; none if the text is no address. -/
def groups (l : List UInt8) : Option (List Int) :=
  match gap l with
  | none => if allHex (spell (parts l)) = true ∧ (spell (parts l)).length = 8 then some (nums (spell (parts l))) else none
  | some (b, a) => if allHex (parts b) = true ∧ allHex (spell (parts a)) = true ∧ (parts b).length + (spell (parts a)).length < 8 then
      some (nums (parts b) ++ List.replicate (8 - (parts b).length - (spell (parts a)).length) 0 ++ nums (spell (parts a))) else none
def ok6 (l : List UInt8) : Bool := (groups l).isSome
def hi6 (l : List UInt8) : Nat := match groups l with | some g => val (g.take 4) | none => 0
def lo6 (l : List UInt8) : Nat := match groups l with | some g => val (g.drop 4) | none => 0
theorem val_lt (gs : List Int) : val gs < 18446744073709551616 := by
  revert gs
  refine snocRec (by decide) fun l c _ => ?_
  simp [val, List.foldl_append]; omega
theorem val_snoc (gs : List Int) (g : Int) : val (gs ++ [g]) = (65536 * val gs + g.toNat) % 18446744073709551616 := by simp [val, List.foldl_append]
theorem hi6_lt (l : List UInt8) : hi6 l < 18446744073709551616 := by unfold hi6; split; exact val_lt _; omega
theorem lo6_lt (l : List UInt8) : lo6 l < 18446744073709551616 := by unfold lo6; split; exact val_lt _; omega
theorem nums_bd {ps : List (List UInt8)} : ∀ g ∈ nums ps, 0 ≤ g ∧ g ≤ 65535 := by
  intro g hg
  unfold nums at hg
  obtain ⟨x, _, rfl⟩ := List.mem_map.1 hg
  exact hexN_bd x
theorem groups_len {l : List UInt8} {g : List Int} (h : groups l = some g) : g.length = 8 := by
  unfold groups at h
  split at h
  · split at h
    · rename_i h2
      cases h
      unfold nums; rw [List.length_map]; exact h2.2
    · cases h
  · split at h
    · rename_i h2
      cases h
      simp [nums]; omega
    · cases h
theorem groups_bd {l : List UInt8} {g : List Int} (h : groups l = some g) : ∀ x ∈ g, 0 ≤ x ∧ x ≤ 65535 := by
  unfold groups at h
  split at h
  · split at h
    · cases h; exact nums_bd
    · cases h
  · split at h
    · cases h
      intro x hx
      rcases List.mem_append.1 hx with hx | hx
      · rcases List.mem_append.1 hx with hx | hx
        · exact nums_bd x hx
        · have := List.eq_of_mem_replicate hx; omega
      · exact nums_bd x hx
    · cases h
end Go.Proofs.YtokbifndhkijiaaDoor.V6
