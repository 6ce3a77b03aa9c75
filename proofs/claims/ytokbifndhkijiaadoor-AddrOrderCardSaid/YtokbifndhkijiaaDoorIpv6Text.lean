/- Addresses of eight groups: their texts, and what is read of them; in plain words. -/
import Derived.Test.YtokbifndhkijiaaDoorIpv6Math
namespace Go.Proofs.YtokbifndhkijiaaDoor.V6
open Dec Words V4
theorem cut46_hex {x : List UInt8} (h : hexB x = true) : (46 : UInt8) ∉ x := by
  intro hm
  have := ((hexB_iff x).1 h).2.2 46 hm
  exact absurd this (by decide)
theorem hexB_not_ok4 {x : List UInt8} (h : hexB x = true) : ok4 x = false := by
  refine ok4_len ?_
  have := cut_one.2 (cut46_hex h)
  omega
/-! What the document's way reads of parts. -/
def fullB (l : List (List UInt8)) : Bool := allHex (spell l) && decide ((spell l).length = 8)
theorem spell_len (l : List (List UInt8)) : l.length ≤ (spell l).length ∧ (spell l).length ≤ l.length + 1 := by
  rcases List.eq_nil_or_concat l with rfl | ⟨q, x, rfl⟩
  · simp [spell]
  · rw [List.concat_eq_append, spell_snoc]
    rw [spell]
    split <;> simp
theorem spell_off {q : List (List UInt8)} {x : List UInt8} (h : ok4 x = false) : spell (q ++ [x]) = q ++ [x] := by
  rw [spell_snoc, spell, if_neg (by simp [h])]
theorem spell_on {q : List (List UInt8)} {x : List UInt8} (h : ok4 x = true) : spell (q ++ [x]) = q ++ [hi4 x, lo4 x] := by
  rw [spell_snoc, spell, if_pos h]
theorem hexB_hi4 (x : List UInt8) : hexB (hi4 x) = true := by
  have := num4_lt x
  unfold hi4; rw [hexB_hex]; simp; omega
theorem hexB_lo4 (x : List UInt8) : hexB (lo4 x) = true := by
  unfold lo4; rw [hexB_hex]; simp; omega
theorem hexN_hi4 (x : List UInt8) : hexN (hi4 x) = ((num4 x / 65536 : Nat) : Int) := hexN_hex (hexB_hi4 x)
theorem hexN_lo4 (x : List UInt8) : hexN (lo4 x) = ((num4 x % 65536 : Nat) : Int) := hexN_hex (hexB_lo4 x)
theorem allHex_append (a b : List (List UInt8)) : allHex (a ++ b) = (allHex a && allHex b) := by simp [allHex]
theorem nums_append (a b : List (List UInt8)) : nums (a ++ b) = nums a ++ nums b := by simp [nums]
/-- A list with zeros in its midst. -/
def withZ (a b : List (List UInt8)) (k : Nat) : List (List UInt8) := a ++ (List.replicate k [48] ++ b)
theorem ok4_zero : ok4 [48] = false := by decide +kernel
theorem spell_withZ (a b : List (List UInt8)) {k : Nat} (h : 1 ≤ k) : spell (withZ a b k) = a ++ (List.replicate k [48] ++ spell b) := by
  unfold withZ
  obtain ⟨j, rfl⟩ : ∃ j, k = j + 1 := ⟨k - 1, by omega⟩
  by_cases hb : b = []
  · subst hb
    rw [List.replicate_succ', List.append_nil, ← List.append_assoc, spell_off ok4_zero]
    simp [spell]
  · rw [← List.append_assoc, spell_append _ hb, List.append_assoc]
theorem allHex_zeros (k : Nat) : allHex (List.replicate k [48]) = true := by
  unfold allHex
  rw [List.all_eq_true]
  intro x hx
  rw [List.eq_of_mem_replicate hx]; decide
theorem nums_zeros (k : Nat) : nums (List.replicate k [48]) = List.replicate k 0 := by
  unfold nums
  rw [List.map_replicate]; rfl
theorem fullB_withZ (a b : List (List UInt8)) {k : Nat} (h : 1 ≤ k) : fullB (withZ a b k) = true ↔ allHex a = true ∧ allHex (spell b) = true ∧ a.length + k + (spell b).length = 8 := by
  unfold fullB
  rw [spell_withZ a b h, allHex_append, allHex_append, allHex_zeros]
  simp [and_assoc]
  intro _ _
  omega
theorem nums_withZ (a b : List (List UInt8)) {k : Nat} (h : 1 ≤ k) : nums (spell (withZ a b k)) = nums a ++ List.replicate k 0 ++ nums (spell b) := by
  rw [spell_withZ a b h, nums_append, nums_append, nums_zeros, List.append_assoc]
theorem groups_whole {l : List UInt8} (h : gap l = none) : groups l = if fullB (parts l) = true then some (nums (spell (parts l))) else none := by
  unfold groups fullB
  rw [h]
  simp
theorem groups_gap {l b a : List UInt8} (h : gap l = some (b, a)) {k : Nat} (hk : 1 ≤ k) (hf : fullB (withZ (parts b) (parts a) k) = true) : groups l = some (nums (spell (withZ (parts b) (parts a) k))) := by
  have h2 := (fullB_withZ _ _ hk).1 hf
  unfold groups
  rw [h]
  simp only []
  rw [if_pos ⟨h2.1, h2.2.1, by omega⟩, nums_withZ _ _ hk]
  congr 4; omega
theorem groups_nogap {l b a : List UInt8} (h : gap l = some (b, a)) (hf : ∀ k, 1 ≤ k → k ≤ 8 → fullB (withZ (parts b) (parts a) k) = false) : groups l = none := by
  unfold groups
  rw [h]
  simp only []
  rw [if_neg]
  rintro ⟨h1, h2, h3⟩
  have := hf (8 - (parts b).length - (spell (parts a)).length) (by omega) (by omega)
  rw [← Bool.not_eq_true, fullB_withZ _ _ (by omega)] at this
  exact this ⟨h1, h2, by omega⟩
theorem groups_bad {l b a : List UInt8} {x : List UInt8} (h : gap l = some (b, a)) (hx : x ∈ parts b) (hb : hexB x = false) : groups l = none := by
  unfold groups
  rw [h]
  simp only []
  rw [if_neg]
  rintro ⟨h1, _⟩
  unfold allHex at h1
  rw [List.all_eq_true] at h1
  have := h1 x hx
  rw [hb] at this; cases this
/-! No text of an address is long. -/
theorem glue_sum {c : UInt8} : ∀ {ps : List (List UInt8)}, (∀ x ∈ ps, x.length ≤ 4) → (glue c ps).length ≤ 5 * ps.length := by
  intro ps h
  have := glue_bound (c := c) (b := 4) h
  omega
theorem spell_sum {l : List UInt8} (h : allHex (spell (parts l)) = true) : l.length ≤ 5 * (spell (parts l)).length + 15 := by
  unfold parts at h ⊢
  by_cases hl : l = []
  · subst hl; simp
  · rw [if_neg hl] at h ⊢
    obtain ⟨ps, e1, h1, h2⟩ := last_split l
    rw [e1, spell_snoc, allHex_append, Bool.and_eq_true] at h
    have hps : ∀ x ∈ ps, x.length ≤ 4 := by
      intro x hx
      have := List.all_eq_true.1 h.1 x hx
      exact ((hexB_iff x).1 this).2.1
    have hg := glue_sum (c := 58) hps
    have hx : (lastP l).length ≤ 15 := by
      cases e : ok4 (lastP l)
      · have h3 := h.2
        rw [spell, if_neg (by simp [e])] at h3
        have := List.all_eq_true.1 h3 (lastP l) (by simp)
        have := ((hexB_iff _).1 this).2.1
        omega
      · rcases Nat.lt_or_ge 15 (lastP l).length with h4 | h4
        · rw [ok4_long h4] at e; cases e
        · exact h4
    have hs := (spell_len (cut 58 l)).1
    rw [e1] at hs ⊢
    simp at hs
    rcases h2 with ⟨_, h2⟩ | ⟨_, h2⟩
    · have := congrArg List.length h2; omega
    · have := congrArg List.length h2
      simp at this
      omega
theorem parts_sum {l : List UInt8} (h : allHex (parts l) = true) : l.length ≤ 5 * (parts l).length := by
  unfold parts at h ⊢
  by_cases hl : l = []
  · subst hl; simp
  · rw [if_neg hl] at h ⊢
    have := glue_sum (c := 58) (ps := cut 58 l) (fun x hx => ((hexB_iff x).1 (List.all_eq_true.1 h x hx)).2.1)
    rwa [glue_cut] at this
theorem groups_long {l : List UInt8} (h : 60 < l.length) : groups l = none := by
  unfold groups
  cases hg : gap l with
  | none =>
    simp only []
    rw [if_neg]
    rintro ⟨h1, h2⟩
    have := spell_sum h1
    omega
  | some p =>
    obtain ⟨b, a⟩ := p
    simp only []
    rw [if_neg]
    rintro ⟨h1, h2, h3⟩
    have e := congrArg List.length (gap_some.1 hg).1
    have := spell_sum h2
    have := parts_sum h1
    simp at e
    omega
/-! The code's way. -/
theorem groups_code {l : List UInt8} : groups l = match gap (spelled l) with
    | none => if allHex (parts (spelled l)) = true ∧ (parts (spelled l)).length = 8 then some (nums (parts (spelled l))) else none
    | some (b, a) => if allHex (parts b) = true ∧ allHex (parts a) = true ∧ (parts b).length + (parts a).length < 8 then
      some (nums (parts b) ++ List.replicate (8 - (parts b).length - (parts a).length) 0 ++ nums (parts a)) else none := by
  unfold groups
  cases hg : gap l with
  | none => rw [gap_spelled_none hg]; simp only []; rw [parts_spelled]
  | some p => obtain ⟨b, a⟩ := p; rw [gap_spelled_some hg]; simp only []; rw [parts_spelled]
/-! Texts. -/
def gr (hi lo : Nat) : List Int := [((hi / 281474976710656 % 65536 : Nat) : Int), ((hi / 4294967296 % 65536 : Nat) : Int), ((hi / 65536 % 65536 : Nat) : Int), ((hi % 65536 : Nat) : Int),
  ((lo / 281474976710656 % 65536 : Nat) : Int), ((lo / 4294967296 % 65536 : Nat) : Int), ((lo / 65536 % 65536 : Nat) : Int), ((lo % 65536 : Nat) : Int)]
def hexes (gs : List Int) : List (List UInt8) := gs.map hex
/-- The code's search for the longest run of zeros: the longest, how long the run here is, from, to. -/
def cst (p : List Bool) : Nat → Nat × Nat × Nat × Nat
  | 0 => (1, 0, 0, 0)
  | k + 1 =>
    let s := cst p k
    let long := if p.getD k false then s.2.1 + 1 else 0
    if s.1 < long then (long, long, k + 1 - long, k + 1) else (s.1, long, s.2.2.1, s.2.2.2)
/-- How long the run of zeros is from one on. -/
def zl (p : List Bool) (i : Nat) : Nat := ((p.drop i).takeWhile id).length
/-- The document's search. -/
def rst (p : List Bool) : Nat → Int
  | 0 => -1
  | k + 1 => if 1 < zl p k ∧ (rst p k < 0 ∨ zl p (rst p k).toNat < zl p k) then k else rst p k
def zp (gs : List Int) : List Bool := gs.map (· == 0)
def from6 (gs : List Int) : Nat := (cst (zp gs) 8).2.2.1
def to6 (gs : List Int) : Nat := (cst (zp gs) 8).2.2.2
def textG (gs : List Int) : List UInt8 := if from6 gs = to6 gs then glue 58 (hexes gs) else glue 58 ((hexes gs).take (from6 gs)) ++ 58 :: 58 :: glue 58 ((hexes gs).drop (to6 gs))
def text6 (hi lo : Nat) : List UInt8 := textG (gr hi lo)
def full6 (hi lo : Nat) : List UInt8 := glue 58 (hexes (gr hi lo))
theorem pat (P : List Bool → Prop) (h : ∀ a b c d e f g h : Bool, P [a, b, c, d, e, f, g, h]) {p : List Bool} (hp : p.length = 8) : P p := by
  match p, hp with
  | [a, b, c, d, e, f, g, i], _ => exact h a b c d e f g i
theorem run_all : ∀ a b c d e f g h : Bool, (fun p : List Bool => (cst p 8).2.2.1 ≤ (cst p 8).2.2.2 ∧ (cst p 8).2.2.2 ≤ 8 ∧ (cst p 8).2.2.1 + 1 ≠ (cst p 8).2.2.2 ∧ (∀ i, i < 8 → (cst p 8).2.2.1 ≤ i → i < (cst p 8).2.2.2 → p.getD i false = true)
    ∧ (rst p 8 < 0 ↔ (cst p 8).2.2.1 = (cst p 8).2.2.2) ∧ (0 ≤ rst p 8 → rst p 8 = (cst p 8).2.2.1 ∧ (cst p 8).2.2.2 = (cst p 8).2.2.1 + zl p (cst p 8).2.2.1)) [a, b, c, d, e, f, g, h] := by decide +kernel
theorem gr_len (hi lo : Nat) : (gr hi lo).length = 8 := rfl
theorem zp_len {gs : List Int} (h : gs.length = 8) : (zp gs).length = 8 := by unfold zp; simpa using h
theorem run6 {gs : List Int} (h : gs.length = 8) : from6 gs ≤ to6 gs ∧ to6 gs ≤ 8 ∧ from6 gs + 1 ≠ to6 gs ∧ (∀ i, i < 8 → from6 gs ≤ i → i < to6 gs → (zp gs).getD i false = true)
    ∧ (rst (zp gs) 8 < 0 ↔ from6 gs = to6 gs) ∧ (0 ≤ rst (zp gs) 8 → rst (zp gs) 8 = from6 gs ∧ to6 gs = from6 gs + zl (zp gs) (from6 gs)) :=
  pat (fun p : List Bool => (cst p 8).2.2.1 ≤ (cst p 8).2.2.2 ∧ (cst p 8).2.2.2 ≤ 8 ∧ (cst p 8).2.2.1 + 1 ≠ (cst p 8).2.2.2 ∧ (∀ i, i < 8 → (cst p 8).2.2.1 ≤ i → i < (cst p 8).2.2.2 → p.getD i false = true)
    ∧ (rst p 8 < 0 ↔ (cst p 8).2.2.1 = (cst p 8).2.2.2) ∧ (0 ≤ rst p 8 → rst p 8 = (cst p 8).2.2.1 ∧ (cst p 8).2.2.2 = (cst p 8).2.2.1 + zl p (cst p 8).2.2.1)) run_all (zp_len h)
theorem run_zero {gs : List Int} (h : gs.length = 8) {i : Nat} (h1 : from6 gs ≤ i) (h2 : i < to6 gs) : gs[i]? = some 0 := by
  have h8 : i < 8 := by have := (run6 h).2.1; omega
  have := (run6 h).2.2.2.1 i h8 h1 h2
  unfold zp at this
  rw [List.getD, List.getElem?_map, List.getElem?_eq_getElem (by omega)] at this
  simp at this
  rw [List.getElem?_eq_getElem (by omega), this]
theorem gs_split {gs : List Int} (h : gs.length = 8) : gs = gs.take (from6 gs) ++ List.replicate (to6 gs - from6 gs) 0 ++ gs.drop (to6 gs) := by
  have hr := run6 h
  apply List.ext_getElem?
  intro i
  by_cases c1 : i < from6 gs
  · rw [List.append_assoc, List.getElem?_append_left (by rw [List.length_take]; omega), List.getElem?_take_of_lt c1]
  · by_cases c2 : i < to6 gs
    · rw [run_zero h (by omega) c2, List.getElem?_append_left (by simp; omega), List.getElem?_append_right (by rw [List.length_take]; omega), List.getElem?_replicate, if_pos (by rw [List.length_take]; omega)]
    · rw [List.getElem?_append_right (by simp; omega), List.getElem?_drop]
      congr 1; simp; omega
theorem gr_bd (hi lo : Nat) : ∀ x ∈ gr hi lo, 0 ≤ x ∧ x ≤ 65535 := by
  intro x hx
  unfold gr at hx
  simp only [List.mem_cons, List.not_mem_nil, or_false] at hx
  rcases hx with rfl | rfl | rfl | rfl | rfl | rfl | rfl | rfl <;> omega
theorem hexes_ok {gs : List Int} (h : ∀ x ∈ gs, 0 ≤ x ∧ x ≤ 65535) : ∀ x ∈ hexes gs, x ≠ [] ∧ (58 : UInt8) ∉ x ∧ hexB x = true := by
  intro x hx
  obtain ⟨g, hg, rfl⟩ := List.mem_map.1 hx
  have := h g hg
  exact ⟨hex_ne this.1 this.2, hex_no58 _, by rw [hexB_hex]; simp; omega⟩
theorem nums_hexes {gs : List Int} (h : ∀ x ∈ gs, 0 ≤ x ∧ x ≤ 65535) : nums (hexes gs) = gs := by
  unfold nums hexes
  rw [List.map_map]
  conv => rhs; rw [← List.map_id gs]
  refine List.map_congr_left fun g hg => ?_
  have := h g hg
  exact hexN_hex (by rw [hexB_hex]; simp; omega)
theorem allHex_of {ps : List (List UInt8)} (h : ∀ x ∈ ps, x ≠ [] ∧ (58 : UInt8) ∉ x ∧ hexB x = true) : allHex ps = true := by
  unfold allHex
  rw [List.all_eq_true]
  exact fun x hx => (h x hx).2.2
theorem spell_hex {ps : List (List UInt8)} (h : ∀ x ∈ ps, hexB x = true) : spell ps = ps := by
  rcases List.eq_nil_or_concat ps with rfl | ⟨q, x, rfl⟩
  · rfl
  · rw [List.concat_eq_append] at h ⊢
    exact spell_off (hexB_not_ok4 (h x (by simp)))
theorem parts_glue {ps : List (List UInt8)} (h : ∀ x ∈ ps, x ≠ [] ∧ (58 : UInt8) ∉ x ∧ hexB x = true) : parts (glue 58 ps) = ps := by
  unfold parts
  cases ps with
  | nil => rfl
  | cons x r =>
    have hx := h x (by simp)
    rw [if_neg, cut_glue (by simp) (fun y hy => (h y hy).2.1)]
    cases r with
    | nil => exact hx.1
    | cons y t => rw [glue_cons _ _ (by simp)]; simp
/-- Ahead of the end no two colons stand side by side. -/
theorem glue_two (r : List UInt8) : ∀ {ps : List (List UInt8)}, (∀ x ∈ ps, x ≠ [] ∧ (58 : UInt8) ∉ x ∧ hexB x = true) → ∀ i, i < (glue 58 ps).length → ¬ two (glue 58 ps ++ 58 :: r) i
  | [], _, i, hi => by simp [glue] at hi
  | [x], h, i, hi => by
    have hx := h x (by simp)
    intro h2
    have h3 := h2.1
    rw [List.getElem?_append_left hi] at h3
    exact hx.2.1 (List.mem_of_getElem? h3)
  | x :: y :: t, h, i, hi => by
    have hx := h x (by simp)
    have ih := glue_two r (ps := y :: t) (fun z hz => h z (List.mem_cons_of_mem _ hz))
    have hg : glue 58 (y :: t) ≠ [] := by
      have hy := h y (by simp)
      cases t with
      | nil => exact hy.1
      | cons z u => rw [glue_cons _ _ (by simp)]; simp
    rw [glue_cons _ _ (by simp)] at hi ⊢
    rw [List.append_assoc, List.cons_append]
    intro h2
    have h3 := h2.1
    have h4 := h2.2
    by_cases c1 : i < x.length
    · rw [List.getElem?_append_left c1] at h3
      exact hx.2.1 (List.mem_of_getElem? h3)
    · rw [List.getElem?_append_right (by omega)] at h3 h4
      by_cases c2 : i = x.length
      · subst c2
        rw [show x.length + 1 - x.length = 0 + 1 by omega, List.getElem?_cons_succ] at h4
        have hy := h y (by simp)
        have h5 : (glue 58 (y :: t) ++ 58 :: r)[0]? = y[0]? := by
          have hy0 : 0 < y.length := List.length_pos_iff.2 hy.1
          cases t with
          | nil => exact List.getElem?_append_left hy0
          | cons z u => rw [glue_cons _ _ (by simp), List.append_assoc, List.getElem?_append_left hy0]
        rw [h5] at h4
        exact hy.2.1 (List.mem_of_getElem? h4)
      · obtain ⟨k, hk⟩ : ∃ k, i - x.length = k + 1 := ⟨i - x.length - 1, by omega⟩
        have hk2 : i + 1 - x.length = (k + 1) + 1 := by omega
        rw [hk, List.getElem?_cons_succ] at h3
        rw [hk2, List.getElem?_cons_succ] at h4
        refine ih k ?_ ⟨h3, h4⟩
        simp at hi; omega
theorem gap_glue {ps : List (List UInt8)} (h : ∀ x ∈ ps, x ≠ [] ∧ (58 : UInt8) ∉ x ∧ hexB x = true) : gap (glue 58 ps) = none := by
  rw [gap_none]
  intro i h2
  have h4 := h2.2
  have hi : i + 1 < (glue 58 ps).length := by
    rcases Nat.lt_or_ge (i + 1) (glue 58 ps).length with h5 | h5
    · exact h5
    · rw [List.getElem?_eq_none h5] at h4; cases h4
  refine glue_two [] h i (by omega) ?_
  unfold two at h2 ⊢
  rw [List.getElem?_append_left (by omega), List.getElem?_append_left hi]
  exact h2
theorem groups_full {gs : List Int} (h : ∀ x ∈ gs, 0 ≤ x ∧ x ≤ 65535) (h8 : gs.length = 8) : groups (glue 58 (hexes gs)) = some gs := by
  have ho := hexes_ok h
  have hs := spell_hex (fun x hx => (ho x hx).2.2)
  rw [groups_whole (gap_glue ho), parts_glue ho, hs, nums_hexes h, if_pos]
  unfold fullB
  rw [hs, allHex_of ho]
  simp [hexes, h8]
theorem groups_textG {gs : List Int} (h : ∀ x ∈ gs, 0 ≤ x ∧ x ≤ 65535) (h8 : gs.length = 8) : groups (textG gs) = some gs := by
  unfold textG
  by_cases hr : from6 gs = to6 gs
  · rw [if_pos hr, groups_full h h8]
  · rw [if_neg hr]
    have hr6 := run6 h8
    have ho := hexes_ok h
    have hA : ∀ x ∈ (hexes gs).take (from6 gs), x ≠ [] ∧ (58 : UInt8) ∉ x ∧ hexB x = true := fun x hx => ho x (List.mem_of_mem_take hx)
    have hB : ∀ x ∈ (hexes gs).drop (to6 gs), x ≠ [] ∧ (58 : UInt8) ∉ x ∧ hexB x = true := fun x hx => ho x (List.mem_of_mem_drop hx)
    have hg : gap (glue 58 ((hexes gs).take (from6 gs)) ++ 58 :: 58 :: glue 58 ((hexes gs).drop (to6 gs))) = some (glue 58 ((hexes gs).take (from6 gs)), glue 58 ((hexes gs).drop (to6 gs))) :=
      gap_some.2 ⟨rfl, fun i hi => glue_two _ hA i hi⟩
    have hlen : (hexes gs).length = 8 := by unfold hexes; simpa using h8
    unfold groups
    rw [hg]
    simp only []
    rw [parts_glue hA, parts_glue hB, spell_hex (fun x hx => (hB x hx).2.2), if_pos ⟨allHex_of hA, allHex_of hB, by rw [List.length_take, List.length_drop]; omega⟩]
    congr 1
    have e1 : nums ((hexes gs).take (from6 gs)) = gs.take (from6 gs) := by
      unfold hexes; rw [← List.map_take]; exact nums_hexes fun x hx => h x (List.mem_of_mem_take hx)
    have e2 : nums ((hexes gs).drop (to6 gs)) = gs.drop (to6 gs) := by
      unfold hexes; rw [← List.map_drop]; exact nums_hexes fun x hx => h x (List.mem_of_mem_drop hx)
    rw [e1, e2]
    conv => rhs; rw [gs_split h8]
    congr 3
    rw [List.length_take, List.length_drop]; omega
theorem val_hi {hi : Nat} (lo : Nat) (h : hi < 18446744073709551616) : val ((gr hi lo).take 4) = hi := by
  unfold gr val
  simp only [List.take_succ_cons, List.take_zero, List.foldl_cons, List.foldl_nil, Int.toNat_natCast]
  omega
theorem val_lo (hi : Nat) {lo : Nat} (h : lo < 18446744073709551616) : val ((gr hi lo).drop 4) = lo := by
  unfold gr val
  simp only [List.drop_succ_cons, List.drop_zero, List.foldl_cons, List.foldl_nil, Int.toNat_natCast]
  omega
theorem ok6_of {l : List UInt8} {g : List Int} (h : groups l = some g) : ok6 l = true ∧ hi6 l = val (g.take 4) ∧ lo6 l = val (g.drop 4) := by
  unfold ok6 hi6 lo6; rw [h]; exact ⟨rfl, rfl, rfl⟩
theorem ok6_no {l : List UInt8} (h : groups l = none) : ok6 l = false ∧ hi6 l = 0 ∧ lo6 l = 0 := by
  unfold ok6 hi6 lo6; rw [h]; exact ⟨rfl, rfl, rfl⟩
theorem no6 {l : List UInt8} (h : ok6 l = false) : hi6 l = 0 ∧ lo6 l = 0 := by
  unfold ok6 at h
  exact (ok6_no (by simpa using h)).2
/-- V63: an address is read of its text, and of the text of all its groups. -/
theorem back6 {hi lo : Nat} (h1 : hi < 18446744073709551616) (h2 : lo < 18446744073709551616) : ok6 (text6 hi lo) = true ∧ hi6 (text6 hi lo) = hi ∧ lo6 (text6 hi lo) = lo := by
  have := ok6_of (groups_textG (gr_bd hi lo) (gr_len hi lo))
  rw [val_hi lo h1, val_lo hi h2] at this
  exact this
theorem back6_full {hi lo : Nat} (h1 : hi < 18446744073709551616) (h2 : lo < 18446744073709551616) : ok6 (full6 hi lo) = true ∧ hi6 (full6 hi lo) = hi ∧ lo6 (full6 hi lo) = lo := by
  have := ok6_of (groups_full (gr_bd hi lo) (gr_len hi lo))
  rw [val_hi lo h1, val_lo hi h2] at this
  exact this
theorem glue_ge (c : UInt8) : ∀ {ps : List (List UInt8)}, (∀ x ∈ ps, x ≠ []) → 2 * ps.length ≤ (glue c ps).length + 1
  | [], _ => by simp
  | [x], h => by
    have := List.length_pos_iff.2 (h x (by simp))
    simp [glue]; omega
  | x :: y :: t, h => by
    have h1 := List.length_pos_iff.2 (h x (by simp))
    have ih := glue_ge c (ps := y :: t) (fun z hz => h z (List.mem_cons_of_mem _ hz))
    rw [glue_cons _ _ (by simp)]
    simp at ih ⊢; omega
theorem hexes_take (gs : List Int) (k : Nat) : hexes (gs.take k) = (hexes gs).take k := by unfold hexes; rw [List.map_take]
/-- No text is longer than that of all its groups. -/
theorem short6 (hi lo : Nat) : (text6 hi lo).length ≤ (full6 hi lo).length := by
  unfold text6 full6 textG
  have h8 := gr_len hi lo
  have hr6 := run6 h8
  have ho := hexes_ok (gr_bd hi lo)
  generalize gr hi lo = gs at *
  by_cases hr : from6 gs = to6 gs
  · rw [if_pos hr]; exact Nat.le_refl _
  · rw [if_neg hr]
    have hlen : (hexes gs).length = 8 := by unfold hexes; simpa using h8
    have e : hexes gs = (hexes gs).take (from6 gs) ++ (((hexes gs).drop (from6 gs)).take (to6 gs - from6 gs) ++ (hexes gs).drop (to6 gs)) := by
      conv => lhs; rw [← List.take_append_drop (from6 gs) (hexes gs)]
      congr 1
      conv => lhs; rw [← List.take_append_drop (to6 gs - from6 gs) ((hexes gs).drop (from6 gs))]
      rw [List.drop_drop]; congr 2; omega
    have hM := glue_ge 58 (ps := ((hexes gs).drop (from6 gs)).take (to6 gs - from6 gs)) (fun x hx => (ho x (List.mem_of_mem_drop (List.mem_of_mem_take hx))).1)
    have hMn : ((hexes gs).drop (from6 gs)).take (to6 gs - from6 gs) ≠ [] := by
      intro h
      have := congrArg List.length h
      simp at this; omega
    have hMl : (((hexes gs).drop (from6 gs)).take (to6 gs - from6 gs)).length = to6 gs - from6 gs := by simp; omega
    conv => rhs; rw [e]
    rw [hMl] at hM
    by_cases hA : (hexes gs).take (from6 gs) = []
    · rw [hA]
      by_cases hB : (hexes gs).drop (to6 gs) = []
      · rw [hB, List.append_nil, List.nil_append]; simp [glue]; omega
      · rw [List.nil_append, glue_append _ hMn hB]; simp [glue]; omega
    · by_cases hB : (hexes gs).drop (to6 gs) = []
      · rw [hB, List.append_nil, glue_append _ hA hMn]; simp [glue]; omega
      · rw [glue_append _ hA (by simp [hMn]), glue_append _ hMn hB]; simp <;> omega
theorem hexes_len4 (gs : List Int) : ∀ x ∈ hexes gs, x.length ≤ 4 := by
  intro x hx
  obtain ⟨g, _, rfl⟩ := List.mem_map.1 hx
  exact hex_len g
theorem full6_len (hi lo : Nat) : (full6 hi lo).length ≤ 40 := by
  have := glue_sum (c := 58) (hexes_len4 (gr hi lo))
  unfold full6
  have h8 : (hexes (gr hi lo)).length = 8 := rfl
  omega
theorem text6_len (hi lo : Nat) : (text6 hi lo).length ≤ 40 := Nat.le_trans (short6 hi lo) (full6_len hi lo)
end Go.Proofs.YtokbifndhkijiaaDoor.V6
