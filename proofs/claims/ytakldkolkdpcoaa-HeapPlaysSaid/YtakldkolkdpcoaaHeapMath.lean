/- Plain mathematics of heaps. Imports nothing of the dump. -/
import Derived.Test.YtakldkolkdpcoaaRef09All
namespace Go.Proofs.Ytakldkolkdpcoaa.Hp
open Dec Words V4 V6 Ad Ci En
set_option linter.unusedVariables false
/-- An item: its key, its end. -/
structure It where
  k : Int
  e : Endp
instance : Inhabited It := ⟨⟨0, zeroE⟩⟩
def zeroI : It := ⟨0, zeroE⟩
def It.ok (x : It) : Prop := (-9223372036854775808 ≤ x.k ∧ x.k ≤ 9223372036854775807) ∧ x.e.ok
theorem zeroI_ok : zeroI.ok := ⟨⟨by decide, by decide⟩, ⟨by decide, by decide⟩, by decide, by decide⟩
def encI (x : It) : List Value := [.int .i64 x.k, .bool x.e.a.v6, .int .u64 x.e.a.hi, .int .u64 x.e.a.lo, .int .i64 x.e.n]
theorem encI_len (x : It) : (encI x).length = 5 := rfl
theorem encI_one (x : It) : ∀ u ∈ encI x, u.oneCell' = true := by
  intro u hu
  simp only [encI, List.mem_cons, List.not_mem_nil, or_false] at hu
  rcases hu with rfl | rfl | rfl | rfl | rfl <;> rfl
def cmpH (x y : It) : Int := if cmpI x.k y.k = 0 then cmpE x.e y.e else cmpI x.k y.k
def ltH (x y : It) : Bool := decide (cmpH x y < 0)
theorem it_eq {x y : It} (h1 : x.k = y.k) (h2 : x.e = y.e) : x = y := by
  obtain ⟨a, b⟩ := x; obtain ⟨c, d⟩ := y
  simp only at h1 h2
  rw [h1, h2]
theorem cmpH_zero (x y : It) : cmpH x y = 0 ↔ x = y := by
  unfold cmpH
  by_cases h : cmpI x.k y.k = 0
  · rw [if_pos h, cmpE_zero]
    exact ⟨fun hn => it_eq ((cmpI_zero _ _).1 h) hn, fun hn => by rw [hn]⟩
  · rw [if_neg h]
    exact ⟨fun hn => absurd hn h, fun hn => absurd ((cmpI_zero _ _).2 (by rw [hn])) h⟩
theorem cmpH_flip (x y : It) : cmpH x y = -cmpH y x := by
  unfold cmpH
  have h := cmpI_flip x.k y.k
  by_cases h0 : cmpI x.k y.k = 0
  · rw [if_pos h0, if_pos (by omega)]; exact cmpE_flip _ _
  · rw [if_neg h0, if_neg (by omega)]; exact h
theorem cmpH_le {a b c : It} (h1 : cmpH a b ≤ 0) (h2 : cmpH b c ≤ 0) : cmpH a c ≤ 0 := by
  have i1 : cmpI a.k b.k = 0 ↔ a.k = b.k := cmpI_zero _ _
  have i2 : cmpI b.k c.k = 0 ↔ b.k = c.k := cmpI_zero _ _
  have i3 : cmpI a.k c.k = 0 ↔ a.k = c.k := cmpI_zero _ _
  have j1 : cmpI a.k b.k ≤ 0 ↔ a.k ≤ b.k := cmpI_le _ _
  have j2 : cmpI b.k c.k ≤ 0 ↔ b.k ≤ c.k := cmpI_le _ _
  have j3 : cmpI a.k c.k ≤ 0 ↔ a.k ≤ c.k := cmpI_le _ _
  unfold cmpH at *
  by_cases x : cmpI a.k b.k = 0
  · rw [if_pos x] at h1
    by_cases y : cmpI b.k c.k = 0
    · rw [if_pos y] at h2
      rw [if_pos (i3.2 ((i1.1 x).trans (i2.1 y)))]
      exact cmpE_le h1 h2
    · rw [if_neg y] at h2
      rw [if_neg (fun h => y (i2.2 ((i1.1 x).symm.trans (i3.1 h))))]
      exact j3.2 (by have := i1.1 x; have := j2.1 h2; omega)
  · rw [if_neg x] at h1
    have hlt : a.k < b.k := by have := j1.1 h1; have : a.k ≠ b.k := fun h => x (i1.2 h); omega
    have hle : b.k ≤ c.k := by
      by_cases y : cmpI b.k c.k = 0
      · exact Int.le_of_eq (i2.1 y)
      · rw [if_neg y] at h2; exact j2.1 h2
    rw [if_neg (fun h => by have := i3.1 h; omega)]
    exact j3.2 (by omega)
/-! The order: 'ltH y x = false' says that x stands no later than y. -/
theorem lt_iff (x y : It) : ltH x y = true ↔ cmpH x y < 0 := by unfold ltH; simp
theorem le_iff (x y : It) : ltH y x = false ↔ cmpH x y ≤ 0 := by
  have := cmpH_flip x y
  unfold ltH; simp; omega
theorem le_self (x : It) : ltH x x = false := (le_iff x x).2 (by rw [(cmpH_zero x x).2 rfl]; decide)
theorem le_go {x y z : It} (h1 : ltH y x = false) (h2 : ltH z y = false) : ltH z x = false := (le_iff x z).2 (cmpH_le ((le_iff x y).1 h1) ((le_iff y z).1 h2))
theorem le_one {x y : It} (h1 : ltH y x = false) (h2 : ltH x y = false) : x = y := by
  rw [← cmpH_zero]
  have := (le_iff x y).1 h1
  have := (le_iff y x).1 h2
  have := cmpH_flip x y
  omega
theorem lt_le {x y : It} (h : ltH x y = true) : ltH y x = false := (le_iff x y).2 (by have := (lt_iff x y).1 h; omega)
/-! Lists as functions of their places. -/
def ls (n : Nat) (f : Nat → It) : List It := (List.range n).map f
theorem ls_length (n : Nat) (f : Nat → It) : (ls n f).length = n := by simp [ls]
theorem ls_get {n : Nat} {f : Nat → It} {i : Nat} (h : i < (ls n f).length) : (ls n f)[i] = f i := by simp [ls]
theorem ls_at {n i : Nat} (f : Nat → It) (h : i < n) : (ls n f)[i]? = some (f i) := by
  rw [List.getElem?_eq_getElem (by rw [ls_length]; exact h), ls_get]
theorem ls_bang {n i : Nat} (f : Nat → It) (h : i < n) : (ls n f)[i]! = f i := by
  rw [getElem!_pos _ _ (by rw [ls_length]; exact h), ls_get]
theorem ls_eq {n : Nat} {f g : Nat → It} (h : ∀ i, i < n → f i = g i) : ls n f = ls n g := List.map_congr_left fun i hi => h i (List.mem_range.1 hi)
theorem ls_of (L : List It) : ls L.length (fun i => L[i]!) = L := by
  refine List.ext_getElem (ls_length _ _) fun i h1 h2 => ?_
  rw [ls_get]
  exact getElem!_pos L i h2
theorem ls_succ (n : Nat) (f : Nat → It) : ls (n + 1) f = ls n f ++ [f n] := by simp [ls, List.range_succ]
def sw (i j : Nat) (f : Nat → It) : Nat → It := fun p => if p = i then f j else if p = j then f i else f p
theorem ls_set {n i : Nat} (f : Nat → It) (x : It) (h : i < n) : (ls n f).set i x = ls n (fun p => if p = i then x else f p) := by
  refine List.ext_getElem (by rw [List.length_set, ls_length, ls_length]) fun j h1 h2 => ?_
  rw [ls_get, List.getElem_set]
  by_cases hj : i = j
  · rw [if_pos hj, if_pos hj.symm]
  · rw [if_neg hj, if_neg (fun h => hj h.symm), ls_get]
theorem ls_sw {n i j : Nat} (f : Nat → It) (hi : i < n) (hj : j < n) : ((ls n f).set i (f j)).set j (f i) = ls n (sw i j f) := by
  rw [ls_set f _ hi, ls_set _ _ hj]
  refine ls_eq fun p _ => ?_
  unfold sw
  by_cases h1 : p = j
  · rw [if_pos h1]
    by_cases h2 : p = i
    · rw [if_pos h2, ← h1, h2]
    · rw [if_neg h2, if_pos h1]
  · rw [if_neg h1]
    by_cases h2 : p = i
    · rw [if_pos h2, if_pos h2]
    · rw [if_neg h2, if_neg h2, if_neg h1]
theorem sw_perm {n i j : Nat} (f : Nat → It) (hi : i < n) (hj : j < n) : (ls n (sw i j f)).Perm (ls n f) := by
  have h := Array.swap_perm (xs := (ls n f).toArray) (i := i) (j := j) (by simp [ls_length]; exact hi) (by simp [ls_length]; exact hj)
  rw [Array.perm_iff_toList_perm] at h
  rw [← ls_sw f hi hj]
  simpa [Array.toList_swap, ls_get] using h
theorem sw_mem {n i j : Nat} {f : Nat → It} {P : It → Prop} (hi : i < n) (hj : j < n) (h : ∀ p, p < n → P (f p)) : ∀ p, p < n → P (sw i j f p) := by
  intro p hp
  unfold sw
  by_cases h1 : p = i
  · rw [if_pos h1]; exact h j hj
  · rw [if_neg h1]
    by_cases h2 : p = j
    · rw [if_pos h2]; exact h i hi
    · rw [if_neg h2]; exact h p hp
theorem sw_i (i j : Nat) (f : Nat → It) : sw i j f i = f j := by unfold sw; rw [if_pos rfl]
theorem sw_j (i j : Nat) (f : Nat → It) : sw i j f j = f i := by
  unfold sw
  by_cases h : j = i
  · rw [if_pos h, h]
  · rw [if_neg h, if_pos rfl]
theorem sw_n {i j p : Nat} (f : Nat → It) (h1 : p ≠ i) (h2 : p ≠ j) : sw i j f p = f p := by unfold sw; rw [if_neg h1, if_neg h2]
/-! Heaps. -/
/-- No item stands ahead of the one above it, as far as that one stands at lo or behind. -/
def HpF (lo n : Nat) (f : Nat → It) : Prop := ∀ k, 0 < k → k < n → lo ≤ (k - 1) / 2 → ltH (f k) (f ((k - 1) / 2)) = false
def firstF (n : Nat) (f : Nat → It) (i : Nat) : Nat :=
  if 2 * i + 2 < n ∧ ltH (f (2 * i + 2)) (f (if 2 * i + 1 < n ∧ ltH (f (2 * i + 1)) (f i) = true then 2 * i + 1 else i)) = true then 2 * i + 2
  else if 2 * i + 1 < n ∧ ltH (f (2 * i + 1)) (f i) = true then 2 * i + 1 else i
theorem first_cases (n : Nat) (f : Nat → It) (i : Nat) :
    (firstF n f i = i ∧ (2 * i + 1 < n → ltH (f (2 * i + 1)) (f i) = false) ∧ (2 * i + 2 < n → ltH (f (2 * i + 2)) (f i) = false)) ∨
    (firstF n f i = 2 * i + 1 ∧ 2 * i + 1 < n ∧ ltH (f (2 * i + 1)) (f i) = true ∧ (2 * i + 2 < n → ltH (f (2 * i + 2)) (f (2 * i + 1)) = false)) ∨
    (firstF n f i = 2 * i + 2 ∧ 2 * i + 2 < n ∧ ltH (f (2 * i + 2)) (f i) = true ∧ ltH (f (2 * i + 1)) (f (2 * i + 2)) = false) := by
  unfold firstF
  by_cases h1 : 2 * i + 1 < n ∧ ltH (f (2 * i + 1)) (f i) = true
  · rw [if_pos h1]
    by_cases h2 : 2 * i + 2 < n ∧ ltH (f (2 * i + 2)) (f (2 * i + 1)) = true
    · rw [if_pos h2]
      refine .inr (.inr ⟨rfl, h2.1, ?_, lt_le h2.2⟩)
      cases h3 : ltH (f (2 * i + 2)) (f i) with
      | true => rfl
      | false =>
        have := le_go h3 (lt_le h2.2)
        rw [this] at h1
        exact absurd h1.2 (by simp)
    · rw [if_neg h2]
      refine .inr (.inl ⟨rfl, h1.1, h1.2, fun h => ?_⟩)
      cases h3 : ltH (f (2 * i + 2)) (f (2 * i + 1)) with
      | true => exact absurd ⟨h, h3⟩ h2
      | false => rfl
  · rw [if_neg h1]
    have h1' : 2 * i + 1 < n → ltH (f (2 * i + 1)) (f i) = false := fun h => by
      cases h3 : ltH (f (2 * i + 1)) (f i) with
      | true => exact absurd ⟨h, h3⟩ h1
      | false => rfl
    by_cases h2 : 2 * i + 2 < n ∧ ltH (f (2 * i + 2)) (f i) = true
    · rw [if_pos h2]
      exact .inr (.inr ⟨rfl, h2.1, h2.2, le_go (lt_le h2.2) (h1' (by omega))⟩)
    · rw [if_neg h2]
      refine .inl ⟨rfl, h1', fun h => ?_⟩
      cases h3 : ltH (f (2 * i + 2)) (f i) with
      | true => exact absurd ⟨h, h3⟩ h2
      | false => rfl
theorem first_lt {n : Nat} {f : Nat → It} {i : Nat} (hi : i < n) : firstF n f i < n := by
  rcases first_cases n f i with ⟨h, _⟩ | ⟨h, h2, _⟩ | ⟨h, h2, _⟩ <;> omega
theorem first_ge {n : Nat} {f : Nat → It} {i : Nat} (h : firstF n f i ≠ i) : i < firstF n f i := by
  rcases first_cases n f i with ⟨h, _⟩ | ⟨h, h2, _⟩ | ⟨h, h2, _⟩ <;> omega
/-- An item sinks (q: at most so often). -/
def sinkF : Nat → Nat → (Nat → It) → Nat → (Nat → It)
  | 0, _, f, _ => f
  | q + 1, n, f, i => if firstF n f i = i then f else sinkF q n (sw i (firstF n f i) f) (firstF n f i)
theorem sink_perm : ∀ (q n : Nat) (f : Nat → It) (i : Nat), i < n → (ls n (sinkF q n f i)).Perm (ls n f)
  | 0, _, _, _, _ => List.Perm.refl _
  | q + 1, n, f, i, hi => by
    unfold sinkF
    by_cases h : firstF n f i = i
    · rw [if_pos h]
    · rw [if_neg h]
      exact (sink_perm q n _ _ (first_lt hi)).trans (sw_perm f hi (first_lt hi))
theorem sink_mem {P : It → Prop} : ∀ (q n : Nat) (f : Nat → It) (i : Nat), i < n → (∀ p, p < n → P (f p)) → ∀ p, p < n → P (sinkF q n f i p)
  | 0, _, _, _, _, h => h
  | q + 1, n, f, i, hi, h => by
    unfold sinkF
    by_cases h2 : firstF n f i = i
    · rw [if_pos h2]; exact h
    · rw [if_neg h2]
      exact sink_mem q n _ _ (first_lt hi) (sw_mem hi (first_lt hi) h)
/-- All but what lies below i, and that lies behind what is above i. -/
def Inv (lo n i : Nat) (f : Nat → It) : Prop :=
  (∀ k, 0 < k → k < n → lo ≤ (k - 1) / 2 → (k - 1) / 2 ≠ i → ltH (f k) (f ((k - 1) / 2)) = false) ∧
  (∀ k, 0 < k → k < n → (k - 1) / 2 = i → 0 < i → lo ≤ (i - 1) / 2 → ltH (f k) (f ((i - 1) / 2)) = false)
theorem inv_step {lo n i c d : Nat} {f : Nat → It} (h : Inv lo n i f) (hlo : lo ≤ i) (hc : c < n) (hci : (c - 1) / 2 = i) (hc0 : 0 < c) (hl : ltH (f c) (f i) = true)
    (hd : ∀ k, 0 < k → k < n → (k - 1) / 2 = i → k ≠ c → ltH (f k) (f c) = false) (hlt : i < c) : Inv lo n c (sw i c f) := by
  refine ⟨fun k k0 kn kl kp => ?_, fun k k0 kn kp c0 cl => ?_⟩
  · by_cases h1 : k = i
    · subst h1
      rw [sw_i, sw_n f (by omega) (by omega)]
      exact h.2 c hc0 hc hci k0 kl
    · by_cases h2 : k = c
      · subst h2
        rw [sw_j, hci, sw_i]
        exact lt_le hl
      · rw [sw_n f h1 h2]
        by_cases h3 : (k - 1) / 2 = i
        · rw [h3, sw_i]
          exact hd k k0 kn h3 h2
        · rw [sw_n f h3 kp]
          exact h.1 k k0 kn kl h3
  · rw [hci, sw_i, sw_n f (by omega) (by omega)]
    have := h.1 k k0 kn (by omega) (by omega)
    rw [kp] at this
    exact this
theorem sink_heap : ∀ (q lo n : Nat) (f : Nat → It) (i : Nat), i < n → n ≤ q + i → lo ≤ i → Inv lo n i f → HpF lo n (sinkF q n f i)
  | 0, lo, n, f, i, hi, hq, _, _ => by omega
  | q + 1, lo, n, f, i, hi, hq, hlo, h => by
    unfold sinkF
    rcases first_cases n f i with ⟨e, a, b⟩ | ⟨e, e2, a, b⟩ | ⟨e, e2, a, b⟩
    · rw [if_pos e]
      intro k k0 kn kl
      by_cases h1 : (k - 1) / 2 = i
      · rw [h1]
        rcases (by omega : k = 2 * i + 1 ∨ k = 2 * i + 2) with rfl | rfl
        · exact a kn
        · exact b kn
      · exact h.1 k k0 kn kl h1
    · rw [if_neg (by omega), e]
      refine sink_heap q lo n _ _ e2 (by omega) (by omega) (inv_step (d := 0) h hlo e2 (by omega) (by omega) a (fun k k0 kn kp kc => ?_) (by omega))
      have : k = 2 * i + 2 := by omega
      subst this
      exact b kn
    · rw [if_neg (by omega), e]
      refine sink_heap q lo n _ _ e2 (by omega) (by omega) (inv_step (d := 0) h hlo e2 (by omega) (by omega) a (fun k k0 kn kp kc => ?_) (by omega))
      have : k = 2 * i + 1 := by omega
      subst this
      exact b
/-- Items sink, from the j-th on towards the first. -/
def makeF : Nat → Nat → (Nat → It) → (Nat → It)
  | 0, _, f => f
  | j + 1, n, f => makeF j n (sinkF n n f j)
theorem make_perm : ∀ (j n : Nat) (f : Nat → It), j ≤ n → (ls n (makeF j n f)).Perm (ls n f)
  | 0, _, _, _ => List.Perm.refl _
  | j + 1, n, f, hj => by
    unfold makeF
    exact (make_perm j n _ (by omega)).trans (sink_perm n n f j (by omega))
theorem make_heap : ∀ (j n : Nat) (f : Nat → It), j ≤ n → HpF j n f → HpF 0 n (makeF j n f)
  | 0, _, _, _, h => h
  | j + 1, n, f, hj, h => by
    unfold makeF
    refine make_heap j n _ (by omega) (sink_heap n j n f j (by omega) (by omega) (Nat.le_refl _) ⟨fun k k0 kn kl kp => h k k0 kn (by omega), fun k k0 kn kp i0 il => by omega⟩)
theorem make_start (n : Nat) (f : Nat → It) : HpF (n / 2) n f := fun k k0 kn kl => by omega
/-- An item rises (q: at most so often). -/
def riseF : Nat → (Nat → It) → Nat → (Nat → It)
  | 0, f, _ => f
  | q + 1, f, i => if 0 < i ∧ ltH (f i) (f ((i - 1) / 2)) = true then riseF q (sw i ((i - 1) / 2) f) ((i - 1) / 2) else f
theorem rise_perm : ∀ (q n : Nat) (f : Nat → It) (i : Nat), i < n → (ls n (riseF q f i)).Perm (ls n f)
  | 0, _, _, _, _ => List.Perm.refl _
  | q + 1, n, f, i, hi => by
    unfold riseF
    by_cases h : 0 < i ∧ ltH (f i) (f ((i - 1) / 2)) = true
    · rw [if_pos h]
      exact (rise_perm q n _ _ (by omega)).trans (sw_perm f hi (by omega))
    · rw [if_neg h]
def Inv2 (n i : Nat) (f : Nat → It) : Prop :=
  (∀ k, 0 < k → k < n → k ≠ i → ltH (f k) (f ((k - 1) / 2)) = false) ∧ (∀ k, 0 < k → k < n → (k - 1) / 2 = i → 0 < i → ltH (f k) (f ((i - 1) / 2)) = false)
theorem inv2_step {n i p : Nat} {f : Nat → It} (h : Inv2 n i f) (hi : i < n) (i0 : 0 < i) (hp : p = (i - 1) / 2) (hl : ltH (f i) (f p) = true) : Inv2 n p (sw i p f) := by
  have hpi : p < i := by omega
  refine ⟨fun k k0 kn kp => ?_, fun k k0 kn kp p0 => ?_⟩
  · by_cases h1 : k = i
    · subst h1
      rw [sw_i, ← hp, sw_j]
      exact lt_le hl
    · rw [sw_n f h1 kp]
      by_cases h3 : (k - 1) / 2 = i
      · rw [h3, sw_i, hp]
        exact h.2 k k0 kn h3 i0
      · by_cases h4 : (k - 1) / 2 = p
        · rw [h4, sw_j]
          have := h.1 k k0 kn h1
          rw [h4] at this
          exact le_go (lt_le hl) this
        · rw [sw_n f h3 h4]
          exact h.1 k k0 kn h1
  · rw [sw_n f (i := i) (j := p) (p := (p - 1) / 2) (by omega) (by omega)]
    have hb := h.1 p p0 (by omega) (by omega)
    by_cases h1 : k = i
    · subst h1
      rw [sw_i]
      exact hb
    · rw [sw_n f h1 (by omega)]
      have := h.1 k k0 kn h1
      rw [kp] at this
      exact le_go hb this
theorem rise_heap : ∀ (q n : Nat) (f : Nat → It) (i : Nat), i < n → i ≤ q → Inv2 n i f → HpF 0 n (riseF q f i)
  | 0, n, f, i, hi, hq, h => fun k k0 kn _ => h.1 k k0 kn (by omega)
  | q + 1, n, f, i, hi, hq, h => by
    unfold riseF
    by_cases hc : 0 < i ∧ ltH (f i) (f ((i - 1) / 2)) = true
    · rw [if_pos hc]
      exact rise_heap q n _ _ (by omega) (by omega) (inv2_step h hi hc.1 rfl hc.2)
    · rw [if_neg hc]
      intro k k0 kn _
      by_cases h1 : k = i
      · subst h1
        cases h3 : ltH (f k) (f ((k - 1) / 2)) with
        | true => exact absurd ⟨k0, h3⟩ hc
        | false => rfl
      · exact h.1 k k0 kn h1
/-- The first of a heap stands no later than any other. -/
theorem heap_first {n : Nat} {f : Nat → It} (h : HpF 0 n f) : ∀ k, k < n → ltH (f k) (f 0) = false := by
  intro k
  induction k using Nat.strongRecOn with
  | ind k ih =>
    intro hk
    rcases Nat.eq_zero_or_pos k with rfl | k0
    · exact le_self _
    · exact le_go (ih ((k - 1) / 2) (by omega) (by omega)) (h k k0 hk (Nat.zero_le _))
/-! Of lists. -/
def fn (l : List It) : Nat → It := fun i => l[i]!
def Heap (l : List It) : Prop := HpF 0 l.length (fn l)
def rightB (l : List It) : Bool := (List.range l.length).all fun k => decide (k = 0) || !ltH (fn l k) (fn l ((k - 1) / 2))
theorem right_iff (l : List It) : rightB l = true ↔ Heap l := by
  unfold rightB Heap HpF
  rw [List.all_eq_true]
  constructor
  · intro h k k0 kn _
    have := h k (List.mem_range.2 kn)
    simp at this
    rcases this with h | h
    · omega
    · exact h
  · intro h k hk
    rcases Nat.eq_zero_or_pos k with rfl | k0
    · simp
    · simp [h k k0 (List.mem_range.1 hk) (Nat.zero_le _)]
theorem heap_ls {n : Nat} {f : Nat → It} (h : HpF 0 n f) : Heap (ls n f) := by
  unfold Heap
  rw [ls_length]
  intro k k0 kn kl
  show ltH (ls n f)[k]! (ls n f)[(k - 1) / 2]! = false
  rw [ls_bang f kn, ls_bang f (by omega)]
  exact h k k0 kn kl
def makeH (l : List It) : List It := ls l.length (makeF (l.length / 2) l.length (fn l))
theorem makeH_perm (l : List It) : (makeH l).Perm l := by
  have := make_perm (l.length / 2) l.length (fn l) (by omega)
  rwa [show ls l.length (fn l) = l from ls_of l] at this
theorem makeH_heap (l : List It) : Heap (makeH l) := heap_ls (make_heap _ _ _ (by omega) (make_start _ _))
def pushH (l : List It) (x : It) : List It := ls (l.length + 1) (riseF l.length (fn (l ++ [x])) l.length)
theorem pushH_perm (l : List It) (x : It) : (pushH l x).Perm (x :: l) := by
  have h := rise_perm l.length (l.length + 1) (fn (l ++ [x])) l.length (by omega)
  have e : ls (l.length + 1) (fn (l ++ [x])) = l ++ [x] := by
    have := ls_of (l ++ [x])
    rw [List.length_append] at this
    exact this
  rw [e] at h
  exact h.trans (List.perm_append_singleton x l)
theorem fn_left {l m : List It} {i : Nat} (h : i < l.length) : fn (l ++ m) i = fn l i := by
  unfold fn
  rw [getElem!_pos (l ++ m) i (by rw [List.length_append]; omega), getElem!_pos l i h, List.getElem_append_left h]
theorem pushH_heap {l : List It} (x : It) (h : Heap l) : Heap (pushH l x) := by
  refine heap_ls (rise_heap _ _ _ _ (by omega) (Nat.le_refl _) ⟨fun k k0 kn kp => ?_, fun k k0 kn kp i0 => by omega⟩)
  rw [fn_left (by omega), fn_left (by omega)]
  exact h k k0 (by omega) (Nat.zero_le _)
/-- What is left of a heap whose first item goes. -/
def popH (l : List It) : List It := if l.length ≤ 1 then [] else ls (l.length - 1) (sinkF (l.length - 1) (l.length - 1) (fun i => if i = 0 then fn l (l.length - 1) else fn l i) 0)
theorem popH_length (l : List It) : (popH l).length = l.length - 1 := by
  unfold popH
  by_cases h : l.length ≤ 1
  · rw [if_pos h]; simp; omega
  · rw [if_neg h, ls_length]
theorem popH_heap {l : List It} (h : Heap l) : Heap (popH l) := by
  unfold popH
  by_cases h1 : l.length ≤ 1
  · rw [if_pos h1]; intro k k0 kn; simp at kn
  · rw [if_neg h1]
    refine heap_ls (sink_heap _ 0 _ _ 0 (by omega) (by omega) (Nat.le_refl _) ⟨fun k k0 kn kl kp => ?_, fun k k0 kn kp i0 => by omega⟩)
    show ltH (if k = 0 then fn l (l.length - 1) else fn l k) (if (k - 1) / 2 = 0 then fn l (l.length - 1) else fn l ((k - 1) / 2)) = false
    rw [if_neg (by omega), if_neg kp]
    exact h k k0 (by omega) kl
theorem popH_perm {l : List It} (h : 0 < l.length) : (fn l 0 :: popH l).Perm l := by
  unfold popH
  by_cases h1 : l.length ≤ 1
  · rw [if_pos h1]
    match l, h, h1 with
    | [x], _, _ => exact List.Perm.refl _
  · rw [if_neg h1]
    refine ((sink_perm (l.length - 1) (l.length - 1) _ 0 (by omega)).cons (fn l 0)).trans ?_
    have e : l = ls (l.length - 1) (fn l) ++ [fn l (l.length - 1)] := by
      rw [← ls_succ, Nat.sub_add_cancel h]
      exact (ls_of l).symm
    have e2 : ∀ (m : Nat) (x : It), ls (m + 1) (fun i => if i = 0 then x else fn l i) = x :: (ls (m + 1) (fn l)).tail := by
      intro m x
      unfold ls
      rw [List.range_succ_eq_map, List.map_cons, List.map_cons, List.tail_cons, if_pos rfl, List.map_map, List.map_map]
      congr 1
    have e3 : ∀ m, fn l 0 :: (ls (m + 1) (fn l)).tail = ls (m + 1) (fn l) := by
      intro m
      unfold ls
      rw [List.range_succ_eq_map, List.map_cons, List.tail_cons]
    obtain ⟨m, hm⟩ : ∃ m, l.length - 1 = m + 1 := ⟨l.length - 2, by omega⟩
    generalize fn l (l.length - 1) = y at *
    rw [hm] at e ⊢
    rw [e2]
    refine (List.Perm.swap _ _ _).trans ?_
    rw [e3 m]
    refine (List.perm_append_singleton _ _).symm.trans ?_
    rw [← e]
/-! Lists in order. -/
def Srt (l : List It) : Prop := l.Pairwise fun a b => ltH b a = false
def placeX (l : List It) (x : It) : Nat := (l.takeWhile fun y => !ltH x y).length
def putX (l : List It) (x : It) : List It := l.take (placeX l x) ++ x :: l.drop (placeX l x)
def sortX (l : List It) : List It := l.foldl putX []
theorem putX_eq (l : List It) (x : It) : putX l x = l.takeWhile (fun y => !ltH x y) ++ x :: l.dropWhile (fun y => !ltH x y) := by
  unfold putX placeX
  have e := List.takeWhile_append_dropWhile (p := fun y => !ltH x y) (l := l)
  have e1 : l.take (l.takeWhile fun y => !ltH x y).length = l.takeWhile fun y => !ltH x y := by
    conv => lhs; rw [← e]
    rw [List.take_left' (by rw [e])]
  have e2 : l.drop (l.takeWhile fun y => !ltH x y).length = l.dropWhile fun y => !ltH x y := by
    conv => lhs; rw [← e]
    rw [List.drop_left' (by rw [e])]
  rw [e1, e2]
theorem putX_perm (l : List It) (x : It) : (putX l x).Perm (x :: l) := by
  rw [putX_eq]
  refine List.perm_middle.trans ?_
  rw [List.takeWhile_append_dropWhile]
theorem putX_length (l : List It) (x : It) : (putX l x).length = l.length + 1 := (putX_perm l x).length_eq.trans (List.length_cons ..)
theorem putX_srt {l : List It} (x : It) (h : Srt l) : Srt (putX l x) := by
  unfold Srt at *
  induction l with
  | nil => simp [putX_eq]
  | cons y r ih =>
    rw [List.pairwise_cons] at h
    rw [putX_eq] at ih ⊢
    by_cases hy : ltH x y = true
    · rw [List.takeWhile_cons, List.dropWhile_cons, hy]
      simp only [Bool.not_true, Bool.false_eq_true, if_false, List.nil_append]
      rw [List.pairwise_cons]
      refine ⟨fun z hz => ?_, List.pairwise_cons.2 h⟩
      rcases List.mem_cons.1 hz with rfl | hz
      · exact lt_le hy
      · exact le_go (lt_le hy) (h.1 z hz)
    · have hy' : ltH x y = false := by simpa using hy
      rw [List.takeWhile_cons, List.dropWhile_cons, hy']
      simp only [Bool.not_false, if_true, List.cons_append]
      rw [List.pairwise_cons]
      refine ⟨fun z hz => ?_, ih h.2⟩
      have hm : z ∈ x :: r := by
        have := putX_perm r x
        rw [putX_eq] at this
        exact this.mem_iff.1 hz
      rcases List.mem_cons.1 hm with rfl | hm
      · exact hy'
      · exact h.1 z hm
theorem sort_run : ∀ (l a : List It), Srt a → Srt (l.foldl putX a) ∧ (l.foldl putX a).Perm (a ++ l)
  | [], a, h => ⟨h, by simp⟩
  | x :: r, a, h => by
    obtain ⟨h1, h2⟩ := sort_run r (putX a x) (putX_srt x h)
    refine ⟨h1, h2.trans ?_⟩
    have := (putX_perm a x).append_right r
    exact this.trans (List.perm_middle (l₁ := a) (a := x) (l₂ := r)).symm
theorem sortX_srt (l : List It) : Srt (sortX l) := (sort_run l [] List.Pairwise.nil).1
theorem sortX_perm (l : List It) : (sortX l).Perm l := by have h := (sort_run l [] List.Pairwise.nil).2; rwa [List.nil_append] at h
theorem srt_one {l m : List It} (h1 : Srt l) (h2 : Srt m) (h : l.Perm m) : l = m :=
  List.Perm.eq_of_pairwise (fun a b _ _ hab hba => le_one hab hba) h1 h2 h
/-- What is popped of a heap is the first of its items in order; what is left are the others. -/
theorem pop_first {l q : List It} (hh : Heap l) (hq : Srt q) (h : l.Perm q) (h0 : 0 < l.length) : fn l 0 = fn q 0 ∧ (popH l).Perm (q.drop 1) := by
  match q, hq, h with
  | [], _, h => rw [h.length_eq] at h0; exact absurd h0 (by simp)
  | y :: r, hq, h =>
    have h1 : ltH y (fn l 0) = false := by
      obtain ⟨i, hi, e⟩ := List.getElem_of_mem (h.mem_iff.2 (List.mem_cons_self ..))
      have := heap_first hh i hi
      rwa [show fn l i = y from (getElem!_pos l i hi).trans e] at this
    have h2 : ltH (fn l 0) y = false := by
      have hm : fn l 0 ∈ y :: r := h.mem_iff.1 (by rw [show fn l 0 = l[0] from getElem!_pos l 0 h0]; exact List.getElem_mem _)
      rcases List.mem_cons.1 hm with e | e
      · rw [e]; exact le_self _
      · exact (List.pairwise_cons.1 hq).1 _ e
    have e : fn l 0 = y := le_one h1 h2
    refine ⟨e, ?_⟩
    have := (popH_perm h0).trans h
    rw [e] at this
    exact List.Perm.cons_inv this
end Go.Proofs.Ytakldkolkdpcoaa.Hp
