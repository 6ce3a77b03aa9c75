/- The mathematics of books: lists of entries, by their ends. Of no program. -/
import Derived.Test.YtnflgcpacacnlaaEntry
import Derived.Test.YtnflgcpacacnlaaBlk
namespace Go.Proofs.Ytnflgcpacacnlaa.Bo
set_option maxRecDepth 100000
open Ad Ci En Sat Bk Et
set_option linter.unusedVariables false
instance : Inhabited Ey := ⟨⟨zeroE, 0, 0, 0⟩⟩
instance : Inhabited Endp := ⟨zeroE⟩
/-- Where the first is of which p is true; -1, if of none. -/
def posY (p : Ey → Bool) (l : List Ey) : Int := if l.findIdx p < l.length then (l.findIdx p : Int) else -1
theorem posY_hit {p : Ey → Bool} {l : List Ey} {k : Nat} (hk : k < l.length) (h : ∀ i, i < l.length → i < k → p l[i]! = false) (hp : p l[k]! = true) : posY p l = (k : Int) ∧ l.findIdx p = k := by
  have e : l.findIdx p = k := (List.findIdx_eq hk).2 ⟨by rw [getElem!_pos l k hk] at hp; exact hp, fun j hj => by have := h j (by omega) hj; rw [getElem!_pos l j (by omega)] at this; simpa using this⟩
  exact ⟨by unfold posY; rw [e, if_pos hk], e⟩
theorem posY_miss {p : Ey → Bool} {l : List Ey} (h : ∀ i, i < l.length → p l[i]! = false) : posY p l = -1 ∧ l.findIdx p = l.length := by
  have e : l.findIdx p = l.length := by
    rw [List.findIdx_eq_length]
    intro x hx
    obtain ⟨i, hi, rfl⟩ := List.getElem_of_mem hx
    have := h i hi
    rw [getElem!_pos l i hi] at this
    simpa using this
  exact ⟨by unfold posY; rw [e, if_neg (by omega)], e⟩
theorem posY_neg {p : Ey → Bool} {l : List Ey} : 0 ≤ posY p l ↔ l.findIdx p < l.length := by
  unfold posY
  split <;> omega
theorem posY_is (p : Ey → Bool) (l : List Ey) : (l.findIdx p < l.length ∧ posY p l = (l.findIdx p : Int)) ∨ (l.findIdx p = l.length ∧ posY p l = -1) := by
  unfold posY
  have := List.findIdx_le_length (xs := l) (p := p)
  split
  · exact Or.inl ⟨by assumption, rfl⟩
  · exact Or.inr ⟨by omega, rfl⟩
def isE (E : Endp) (x : Ey) : Bool := sameE x.e E
def isP (E : Endp) (x : Ey) : Bool := decide (0 < cmpE x.e E)
def findR (l : List Ey) (E : Endp) : Int := posY (isE E) l
def placeR (l : List Ey) (E : Endp) : Nat := l.findIdx (isP E)
theorem place_le (l : List Ey) (E : Endp) : placeR l E ≤ l.length := List.findIdx_le_length
def insR (l : List Ey) (y : Ey) : List Ey := l.take (placeR l y.e) ++ y :: l.drop (placeR l y.e)
def codeR (l : List Ey) (y : Ey) (most : Int) : Int := if rightY y = false then 1 else if 0 ≤ findR l y.e then 7 else if most ≤ (l.length : Int) then 5 else 0
def addR (l : List Ey) (y : Ey) (most : Int) : List Ey := if codeR l y most = 0 then insR l y else []
theorem add_wrong {l : List Ey} {y : Ey} (most : Int) (h : rightY y = false) : codeR l y most = 1 ∧ addR l y most = [] := by
  have e : codeR l y most = 1 := by unfold codeR; rw [if_pos h]
  exact ⟨e, by unfold addR; rw [e]; rfl⟩
theorem add_twice {l : List Ey} {y : Ey} (most : Int) (h : rightY y = true) (h2 : 0 ≤ findR l y.e) : codeR l y most = 7 ∧ addR l y most = [] := by
  have e : codeR l y most = 7 := by unfold codeR; rw [if_neg (by simp [h]), if_pos h2]
  exact ⟨e, by unfold addR; rw [e]; rfl⟩
theorem add_full {l : List Ey} {y : Ey} {most : Int} (h : rightY y = true) (h2 : ¬ 0 ≤ findR l y.e) (h3 : most ≤ (l.length : Int)) : codeR l y most = 5 ∧ addR l y most = [] := by
  have e : codeR l y most = 5 := by unfold codeR; rw [if_neg (by simp [h]), if_neg h2, if_pos h3]
  exact ⟨e, by unfold addR; rw [e]; rfl⟩
theorem add_done {l : List Ey} {y : Ey} {most : Int} (h : rightY y = true) (h2 : ¬ 0 ≤ findR l y.e) (h3 : ¬ most ≤ (l.length : Int)) : codeR l y most = 0 ∧ addR l y most = insR l y := by
  have e : codeR l y most = 0 := by unfold codeR; rw [if_neg (by simp [h]), if_neg h2, if_neg h3]
  exact ⟨e, by unfold addR; rw [e]; rfl⟩
theorem code_zero {l : List Ey} {y : Ey} {most : Int} (h : codeR l y most = 0) : rightY y = true ∧ findR l y.e = -1 ∧ (l.length : Int) < most ∧ addR l y most = insR l y := by
  have e : addR l y most = insR l y := by unfold addR; rw [if_pos h]
  unfold codeR at h
  split at h
  · omega
  split at h
  · omega
  split at h
  · omega
  rename_i h1 h2 h3
  refine ⟨by simpa using h1, ?_, by omega, e⟩
  rcases posY_is (isE y.e) l with ⟨_, h⟩ | ⟨_, h⟩
  · unfold findR at h2; omega
  · exact h
def setR (l : List Ey) (y : Ey) : List Ey := l.set (l.findIdx (isE y.e)) y
theorem set_hit {l : List Ey} {y : Ey} {k : Nat} (h : l.findIdx (isE y.e) = k) : setR l y = l.set k y := by unfold setR; rw [h]
theorem set_miss {l : List Ey} {y : Ey} (h : l.findIdx (isE y.e) = l.length) : setR l y = l := by unfold setR; rw [h]; exact List.set_eq_of_length_le (Nat.le_refl _)
theorem set_len (l : List Ey) (y : Ey) : (setR l y).length = l.length := by unfold setR; rw [List.length_set]
theorem set_ok {l : List Ey} {y : Ey} (h : ∀ x ∈ l, x.ok) (hy : y.ok) : ∀ x ∈ setR l y, x.ok := fun x hx => by
  rcases List.mem_or_eq_of_mem_set hx with h2 | rfl
  · exact h x h2
  · exact hy
theorem ins_ok {l : List Ey} {y : Ey} (h : ∀ x ∈ l, x.ok) (hy : y.ok) : ∀ x ∈ insR l y, x.ok := fun x hx => by
  unfold insR at hx
  rw [List.mem_append, List.mem_cons] at hx
  rcases hx with h2 | rfl | h2
  · exact h x (List.mem_of_mem_take h2)
  · exact hy
  · exact h x (List.mem_of_mem_drop h2)
theorem add_ok {l : List Ey} {y : Ey} (most : Int) (h : ∀ x ∈ l, x.ok) (hy : y.ok) : ∀ x ∈ addR l y most, x.ok := fun x hx => by
  unfold addR at hx
  split at hx
  · exact ins_ok h hy x hx
  · simp at hx
theorem ins_len (l : List Ey) (y : Ey) : (insR l y).length = l.length + 1 := by
  unfold insR
  have := place_le l y.e
  simp only [List.length_append, List.length_cons, List.length_take, List.length_drop]
  omega
theorem add_len (l : List Ey) (y : Ey) (most : Int) : (addR l y most).length ≤ l.length + 1 := by
  unfold addR
  split
  · rw [ins_len]; omega
  · simp
theorem ins_find (l : List Ey) (y : Ey) : 0 ≤ findR (insR l y) y.e := by
  unfold findR
  rw [posY_neg, List.findIdx_lt_length]
  exact ⟨y, by unfold insR; simp, by unfold isE; exact (sameE_iff _ _).2 rfl⟩
def hasR (es : List Endp) (E : Endp) : Bool := es.any fun F => sameE F E
def hitR (es : List Endp) (x : Ey) : Bool := (x.st == 3) && hasR es x.e
def downY (es : List Endp) (x : Ey) : Ey := if hitR es x = true then stateY x 1 else x
def downR (l : List Ey) (es : List Endp) : List Ey := l.map (downY es)
theorem down_len (l : List Ey) (es : List Endp) : (downR l es).length = l.length := by unfold downR; rw [List.length_map]
theorem has_next {es : List Endp} {i : Nat} (h : i < es.length) (E : Endp) : hasR (es.take (i + 1)) E = (hasR (es.take i) E || sameE es[i]! E) := by
  unfold hasR
  rw [List.take_succ_eq_append_getElem h, List.any_append, getElem!_pos es i h]
  simp
theorem has_done {es : List Endp} {i : Nat} (h : es.length ≤ i) : es.take i = es := List.take_of_length_le h
/-- The first k are done. -/
def dnR (l : List Ey) (es : List Endp) (k : Nat) : List Ey := (l.take k).map (downY es) ++ l.drop k
theorem dn_zero (l : List Ey) (es : List Endp) : dnR l es 0 = l := by unfold dnR; simp
theorem dn_done {l : List Ey} (es : List Endp) {k : Nat} (h : l.length ≤ k) : dnR l es k = downR l es := by
  unfold dnR downR
  rw [List.take_of_length_le h, List.drop_of_length_le h, List.append_nil]
theorem dn_len {l : List Ey} (es : List Endp) {k : Nat} : (dnR l es k).length = l.length := by
  unfold dnR
  simp only [List.length_append, List.length_map, List.length_take, List.length_drop]
  omega
theorem dn_at {l : List Ey} (es : List Endp) {k : Nat} (h : k < l.length) : (dnR l es k)[k]! = l[k]! := by
  rw [getElem!_pos _ k (by rw [dn_len]; exact h), getElem!_pos l k h]
  unfold dnR
  rw [List.getElem_append_right (by simp; omega)]
  simp only [List.length_map, List.length_take, List.getElem_drop]
  congr 1
  omega
theorem dn_next {l : List Ey} (es : List Endp) {k : Nat} (h : k < l.length) : (dnR l es k).set k (downY es l[k]!) = dnR l es (k + 1) := by
  unfold dnR
  have hl : ((l.take k).map (downY es)).length = k := by simp; omega
  rw [List.set_append_right _ _ (by omega), hl, Nat.sub_self, List.take_succ_eq_append_getElem h, List.map_append, List.drop_eq_getElem_cons h, List.set_cons_zero, getElem!_pos l k h]
  simp
theorem dn_skip {l : List Ey} (es : List Endp) {k : Nat} (h : k < l.length) (hn : hitR es l[k]! = false) : dnR l es k = dnR l es (k + 1) := by
  have e : downY es l[k]! = l[k]! := by unfold downY; rw [hn]; simp
  rw [← dn_next es h, e]
  have h2 : l[k]! = (dnR l es k)[k]'(by rw [dn_len]; exact h) := by rw [← getElem!_pos, dn_at es h]
  rw [h2, List.set_getElem_self]
def countR (l : List Ey) (s : Int) : Nat := l.countP fun x => x.st == s
theorem count_next {l : List Ey} {i : Nat} (h : i < l.length) (s : Int) : countR (l.take (i + 1)) s = countR (l.take i) s + (if l[i]!.st = s then 1 else 0) := by
  unfold countR
  rw [List.take_succ_eq_append_getElem h, List.countP_append, getElem!_pos l i h]
  simp [List.countP_cons]
theorem count_le (l : List Ey) (s : Int) : countR l s ≤ l.length := List.countP_le_length
/-- A book that may be. -/
def RightL (l : List Ey) : Prop := (∀ x ∈ l, rightY x = true) ∧ l.Pairwise fun a b => cmpE a.e b.e < 0
instance (l : List Ey) : Decidable (RightL l) := by unfold RightL; infer_instance
def rightB (l : List Ey) : Bool := decide (RightL l)
theorem rightB_iff (l : List Ey) : rightB l = true ↔ RightL l := by unfold rightB; simp
theorem rightB_not {l : List Ey} (h : ¬ RightL l) : rightB l = false := by unfold rightB; simp [h]
theorem cmpE_lt {a b c : Endp} (h1 : cmpE a b < 0) (h2 : cmpE b c < 0) : cmpE a c < 0 := by
  have h := cmpE_le (a := a) (b := b) (c := c) (by omega) (by omega)
  rcases Int.lt_or_eq_of_le h with h3 | h3
  · exact h3
  · obtain rfl := (cmpE_zero a c).1 h3
    have := cmpE_flip a b
    omega
theorem right_all {l : List Ey} (h : ∀ i, i < l.length → rightY l[i]! = true ∧ ∀ k, k < i → cmpE l[k]!.e l[i]!.e < 0) : rightB l = true := by
  rw [rightB_iff]
  refine ⟨fun x hx => ?_, List.pairwise_iff_getElem.2 fun i j hi hj hij => ?_⟩
  · obtain ⟨i, hi, rfl⟩ := List.getElem_of_mem hx
    have := (h i hi).1
    rwa [getElem!_pos l i hi] at this
  · have := (h j hj).2 i hij
    rwa [getElem!_pos l i hi, getElem!_pos l j hj] at this
theorem right_step {l : List Ey} {n : Nat} (h : ∀ i, i < n → 0 < i → 0 < cmpE l[i]!.e l[i - 1]!.e) : ∀ i, i < n → ∀ k, k < i → cmpE l[k]!.e l[i]!.e < 0
  | 0, _, k, hk => by omega
  | i + 1, hi, k, hk => by
    have h1 := h (i + 1) hi (by omega)
    rw [Nat.add_sub_cancel] at h1
    have h2 := cmpE_flip l[i]!.e l[i + 1]!.e
    rcases Nat.lt_or_eq_of_le (Nat.lt_succ_iff.1 hk) with h3 | rfl
    · exact cmpE_lt (right_step h i (by omega) k h3) (by omega)
    · omega
theorem right_next {l : List Ey} (h : ∀ i, i < l.length → rightY l[i]! = true ∧ (0 < i → 0 < cmpE l[i]!.e l[i - 1]!.e)) : rightB l = true :=
  right_all fun i hi => ⟨(h i hi).1, right_step (n := l.length) (fun j hj h0 => (h j hj).2 h0) i hi⟩
theorem right_no1 {l : List Ey} {i : Nat} (h : i < l.length) (hr : rightY l[i]! = false) : rightB l = false := rightB_not fun k => by
  have := k.1 _ (List.getElem_mem h)
  rw [getElem!_pos l i h] at hr
  rw [hr] at this
  cases this
theorem right_no3 {l : List Ey} {k i : Nat} (h : i < l.length) (hk : k < i) (hc : 0 ≤ cmpE l[k]!.e l[i]!.e) : rightB l = false := rightB_not fun r => by
  have := List.pairwise_iff_getElem.1 r.2 k i (by omega) h hk
  rw [getElem!_pos l k (by omega), getElem!_pos l i h] at hc
  omega
theorem right_no2 {l : List Ey} {i : Nat} (h : i < l.length) (h0 : 0 < i) (hc : ¬ 0 < cmpE l[i]!.e l[i - 1]!.e) : rightB l = false := by
  refine right_no3 (k := i - 1) h (by omega) ?_
  have := cmpE_flip l[i]!.e l[i - 1]!.e
  omega
theorem ins_right {l : List Ey} {y : Ey} (h : RightL l) (hy : rightY y = true) (hf : findR l y.e = -1) : RightL (insR l y) := by
  have hne : ∀ x ∈ l, cmpE x.e y.e ≠ 0 := fun x hx e => by
    have : l.findIdx (isE y.e) < l.length := List.findIdx_lt_length.2 ⟨x, hx, by unfold isE; exact (sameE_iff _ _).2 ((cmpE_zero _ _).1 e)⟩
    unfold findR at hf
    have := posY_neg.2 this
    omega
  have hlow : ∀ x ∈ l.take (placeR l y.e), cmpE x.e y.e < 0 := fun x hx => by
    obtain ⟨i, hi, rfl⟩ := List.getElem_of_mem hx
    rw [List.length_take] at hi
    rw [List.getElem_take]
    have h1 : isP y.e l[i] = false := by
      have := List.not_of_lt_findIdx (p := isP y.e) (xs := l) (i := i) (by unfold placeR at hi; omega)
      simpa using this
    have h2 := hne l[i] (List.getElem_mem _)
    unfold isP at h1
    simp at h1
    omega
  have hup : ∀ x ∈ l.drop (placeR l y.e), cmpE y.e x.e < 0 := fun x hx => by
    obtain ⟨i, hi, rfl⟩ := List.getElem_of_mem hx
    rw [List.length_drop] at hi
    rw [List.getElem_drop]
    have hk : placeR l y.e < l.length := by omega
    have h1 : 0 < cmpE (l[placeR l y.e]).e y.e := by
      have h5 : isP y.e (l[placeR l y.e]) = true := List.findIdx_getElem (p := isP y.e) (xs := l) (w := hk)
      exact of_decide_eq_true h5
    have h2 := cmpE_flip y.e (l[placeR l y.e]).e
    rcases Nat.eq_zero_or_pos i with rfl | h0
    · simp only [Nat.add_zero]; omega
    · have h3 := List.pairwise_iff_getElem.1 h.2 (placeR l y.e) (placeR l y.e + i) hk (by omega) (by omega)
      exact cmpE_lt (by omega) h3
  have hp : (l.take (placeR l y.e) ++ l.drop (placeR l y.e)).Pairwise fun a b => cmpE a.e b.e < 0 := by rw [List.take_append_drop]; exact h.2
  rw [List.pairwise_append] at hp
  refine ⟨fun x hx => ?_, ?_⟩
  · unfold insR at hx
    rw [List.mem_append, List.mem_cons] at hx
    rcases hx with h2 | rfl | h2
    · exact h.1 x (List.mem_of_mem_take h2)
    · exact hy
    · exact h.1 x (List.mem_of_mem_drop h2)
  · unfold insR
    rw [List.pairwise_append, List.pairwise_cons]
    refine ⟨hp.1, ⟨hup, hp.2.1⟩, fun a ha b hb => ?_⟩
    rw [List.mem_cons] at hb
    rcases hb with rfl | hb
    · exact hlow a ha
    · exact hp.2.2 a ha b hb
theorem set_right {l : List Ey} {y : Ey} (h : RightL l) (hy : rightY y = true) : RightL (setR l y) := by
  by_cases hk : l.findIdx (isE y.e) < l.length
  · obtain ⟨k, e⟩ : ∃ k, l.findIdx (isE y.e) = k := ⟨_, rfl⟩
    have he : (l[k]'(by omega)).e = y.e := by
      have := List.findIdx_getElem (p := isE y.e) (xs := l) (w := hk)
      unfold isE at this
      subst e
      exact (sameE_iff _ _).1 this
    rw [e] at hk
    rw [set_hit e]
    refine ⟨fun x hx => ?_, List.pairwise_iff_getElem.2 fun i j hi hj hij => ?_⟩
    · rcases List.mem_or_eq_of_mem_set hx with h2 | rfl
      · exact h.1 x h2
      · exact hy
    · rw [List.length_set] at hi hj
      have h2 := List.pairwise_iff_getElem.1 h.2 i j hi hj hij
      have h3 : ∀ m (hm : m < l.length), ((l.set k y)[m]'(by rw [List.length_set]; exact hm)).e = l[m].e := fun m hm => by
        rw [List.getElem_set]
        split
        · rename_i h4; subst h4; exact he.symm
        · rfl
      rw [h3 i hi, h3 j hj]
      exact h2
  · rw [set_miss (by have := List.findIdx_le_length (xs := l) (p := isE y.e); omega)]
    exact h
theorem right_nil : RightL [] := ⟨fun _ h => absurd h List.not_mem_nil, List.Pairwise.nil⟩
end Go.Proofs.Ytnflgcpacacnlaa.Bo
