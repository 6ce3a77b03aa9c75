/- Plain mathematics of heaps. Imports nothing of the dump. -/
import Derived.Test.YtgnjbbohphoojaaRef09All
import Derived.Test.YtgnjbbohphoojaaBox
import Derived.Test.YtgnjbbohphoojaaEndpDoor
import Derived.Test.YtgnjbbohphoojaaRecsDoor
import Derived.Laws.AppendOwn
import Derived.Laws.Cover3
import Derived.Deep.RegionHeld3
import Derived.Deep.CutRange
import Derived.Lib.MinMax
import Derived.Sort.Grow
import Derived.Deep.LoopGhost
namespace Go.Proofs.Ytgnjbbohphoojaa.Hp
open Dec Words V4 V6 Ad Ci En
set_option linter.unusedVariables false
/-- An item: its key, its end. -/
structure It where
  k : Int
  e : Endp
instance : Inhabited It := ⟨⟨0, zeroE⟩⟩
def zeroI : It := ⟨0, zeroE⟩
def It.ok (x : It) : Prop := (-9223372036854775808 ≤ x.k ∧ x.k ≤ 9223372036854775807) ∧ x.e.ok
theorem zeroI_ok : zeroI.ok := ⟨⟨by decide, by decide⟩, ⟨by decide, by decide⟩, by decide, by decide⟩
def encI (x : It) : List Value := [.int .i64 x.k, .bool x.e.a.v6, .int .u64 x.e.a.hi, .int .u64 x.e.a.lo, .int .i64 x.e.n]
theorem encI_len (x : It) : (encI x).length = 5 := rfl
theorem encI_one (x : It) : ∀ u ∈ encI x, u.oneCell' = true := by
  intro u hu
  simp only [encI, List.mem_cons, List.not_mem_nil, or_false] at hu
  rcases hu with rfl | rfl | rfl | rfl | rfl <;> rfl
def cmpH (x y : It) : Int := if cmpI x.k y.k = 0 then cmpE x.e y.e else cmpI x.k y.k
def ltH (x y : It) : Bool := decide (cmpH x y < 0)
theorem it_eq {x y : It} (h1 : x.k = y.k) (h2 : x.e = y.e) : x = y := by
  obtain ⟨a, b⟩ := x; obtain ⟨c, d⟩ := y
  simp only at h1 h2
  rw [h1, h2]
theorem cmpH_zero (x y : It) : cmpH x y = 0 ↔ x = y := by
  unfold cmpH
  by_cases h : cmpI x.k y.k = 0
  · rw [if_pos h, cmpE_zero]
    exact ⟨fun hn => it_eq ((cmpI_zero _ _).1 h) hn, fun hn => by rw [hn]⟩
  · rw [if_neg h]
    exact ⟨fun hn => absurd hn h, fun hn => absurd ((cmpI_zero _ _).2 (by rw [hn])) h⟩
theorem cmpH_flip (x y : It) : cmpH x y = -cmpH y x := by
  unfold cmpH
  have h := cmpI_flip x.k y.k
  by_cases h0 : cmpI x.k y.k = 0
  · rw [if_pos h0, if_pos (by omega)]; exact cmpE_flip _ _
  · rw [if_neg h0, if_neg (by omega)]; exact h
theorem cmpH_le {a b c : It} (h1 : cmpH a b ≤ 0) (h2 : cmpH b c ≤ 0) : cmpH a c ≤ 0 := by
  have i1 : cmpI a.k b.k = 0 ↔ a.k = b.k := cmpI_zero _ _
  have i2 : cmpI b.k c.k = 0 ↔ b.k = c.k := cmpI_zero _ _
  have i3 : cmpI a.k c.k = 0 ↔ a.k = c.k := cmpI_zero _ _
  have j1 : cmpI a.k b.k ≤ 0 ↔ a.k ≤ b.k := cmpI_le _ _
  have j2 : cmpI b.k c.k ≤ 0 ↔ b.k ≤ c.k := cmpI_le _ _
  have j3 : cmpI a.k c.k ≤ 0 ↔ a.k ≤ c.k := cmpI_le _ _
  unfold cmpH at *
  by_cases x : cmpI a.k b.k = 0
  · rw [if_pos x] at h1
    by_cases y : cmpI b.k c.k = 0
    · rw [if_pos y] at h2
      rw [if_pos (i3.2 ((i1.1 x).trans (i2.1 y)))]
      exact cmpE_le h1 h2
    · rw [if_neg y] at h2
      rw [if_neg (fun h => y (i2.2 ((i1.1 x).symm.trans (i3.1 h))))]
      exact j3.2 (by have := i1.1 x; have := j2.1 h2; omega)
  · rw [if_neg x] at h1
    have hlt : a.k < b.k := by have := j1.1 h1; have : a.k ≠ b.k := fun h => x (i1.2 h); omega
    have hle : b.k ≤ c.k := by
      by_cases y : cmpI b.k c.k = 0
      · exact Int.le_of_eq (i2.1 y)
      · rw [if_neg y] at h2; exact j2.1 h2
    rw [if_neg (fun h => by have := i3.1 h; omega)]
    exact j3.2 (by omega)
/-! The order: 'ltH y x = false' says that x stands no later than y. -/
theorem lt_iff (x y : It) : ltH x y = true ↔ cmpH x y < 0 := by unfold ltH; simp
theorem le_iff (x y : It) : ltH y x = false ↔ cmpH x y ≤ 0 := by
  have := cmpH_flip x y
  unfold ltH; simp; omega
theorem le_self (x : It) : ltH x x = false := (le_iff x x).2 (by rw [(cmpH_zero x x).2 rfl]; decide)
theorem le_go {x y z : It} (h1 : ltH y x = false) (h2 : ltH z y = false) : ltH z x = false := (le_iff x z).2 (cmpH_le ((le_iff x y).1 h1) ((le_iff y z).1 h2))
theorem le_one {x y : It} (h1 : ltH y x = false) (h2 : ltH x y = false) : x = y := by
  rw [← cmpH_zero]
  have := (le_iff x y).1 h1
  have := (le_iff y x).1 h2
  have := cmpH_flip x y
  omega
theorem lt_le {x y : It} (h : ltH x y = true) : ltH y x = false := (le_iff x y).2 (by have := (lt_iff x y).1 h; omega)
/-! Lists as functions of their places. -/
def ls (n : Nat) (f : Nat → It) : List It := (List.range n).map f
theorem ls_length (n : Nat) (f : Nat → It) : (ls n f).length = n := by simp [ls]
theorem ls_get {n : Nat} {f : Nat → It} {i : Nat} (h : i < (ls n f).length) : (ls n f)[i] = f i := by simp [ls]
theorem ls_at {n i : Nat} (f : Nat → It) (h : i < n) : (ls n f)[i]? = some (f i) := by
  rw [List.getElem?_eq_getElem (by rw [ls_length]; exact h), ls_get]
theorem ls_bang {n i : Nat} (f : Nat → It) (h : i < n) : (ls n f)[i]! = f i := by
  rw [getElem!_pos _ _ (by rw [ls_length]; exact h), ls_get]
theorem ls_eq {n : Nat} {f g : Nat → It} (h : ∀ i, i < n → f i = g i) : ls n f = ls n g := List.map_congr_left fun i hi => h i (List.mem_range.1 hi)
theorem ls_of (L : List It) : ls L.length (fun i => L[i]!) = L := by
  refine List.ext_getElem (ls_length _ _) fun i h1 h2 => ?_
  rw [ls_get]
  exact getElem!_pos L i h2
theorem ls_succ (n : Nat) (f : Nat → It) : ls (n + 1) f = ls n f ++ [f n] := by simp [ls, List.range_succ]
def sw (i j : Nat) (f : Nat → It) : Nat → It := fun p => if p = i then f j else if p = j then f i else f p
theorem ls_set {n i : Nat} (f : Nat → It) (x : It) (h : i < n) : (ls n f).set i x = ls n (fun p => if p = i then x else f p) := by
  refine List.ext_getElem (by rw [List.length_set, ls_length, ls_length]) fun j h1 h2 => ?_
  rw [ls_get, List.getElem_set]
  by_cases hj : i = j
  · rw [if_pos hj, if_pos hj.symm]
  · rw [if_neg hj, if_neg (fun h => hj h.symm), ls_get]
theorem ls_sw {n i j : Nat} (f : Nat → It) (hi : i < n) (hj : j < n) : ((ls n f).set i (f j)).set j (f i) = ls n (sw i j f) := by
  rw [ls_set f _ hi, ls_set _ _ hj]
  refine ls_eq fun p _ => ?_
  unfold sw
  by_cases h1 : p = j
  · rw [if_pos h1]
    by_cases h2 : p = i
    · rw [if_pos h2, ← h1, h2]
    · rw [if_neg h2, if_pos h1]
  · rw [if_neg h1]
    by_cases h2 : p = i
    · rw [if_pos h2, if_pos h2]
    · rw [if_neg h2, if_neg h2, if_neg h1]
theorem sw_perm {n i j : Nat} (f : Nat → It) (hi : i < n) (hj : j < n) : (ls n (sw i j f)).Perm (ls n f) := by
  have h := Array.swap_perm (xs := (ls n f).toArray) (i := i) (j := j) (by simp [ls_length]; exact hi) (by simp [ls_length]; exact hj)
  rw [Array.perm_iff_toList_perm] at h
  rw [← ls_sw f hi hj]
  simpa [Array.toList_swap, ls_get] using h
theorem sw_mem {n i j : Nat} {f : Nat → It} {P : It → Prop} (hi : i < n) (hj : j < n) (h : ∀ p, p < n → P (f p)) : ∀ p, p < n → P (sw i j f p) := by
  intro p hp
  unfold sw
  by_cases h1 : p = i
  · rw [if_pos h1]; exact h j hj
  · rw [if_neg h1]
    by_cases h2 : p = j
    · rw [if_pos h2]; exact h i hi
    · rw [if_neg h2]; exact h p hp
theorem sw_i (i j : Nat) (f : Nat → It) : sw i j f i = f j := by unfold sw; rw [if_pos rfl]
theorem sw_j (i j : Nat) (f : Nat → It) : sw i j f j = f i := by
  unfold sw
  by_cases h : j = i
  · rw [if_pos h, h]
  · rw [if_neg h, if_pos rfl]
theorem sw_n {i j p : Nat} (f : Nat → It) (h1 : p ≠ i) (h2 : p ≠ j) : sw i j f p = f p := by unfold sw; rw [if_neg h1, if_neg h2]
/-! Heaps. -/
/-- No item stands ahead of the one above it, as far as that one stands at lo or behind. -/
def HpF (lo n : Nat) (f : Nat → It) : Prop := ∀ k, 0 < k → k < n → lo ≤ (k - 1) / 2 → ltH (f k) (f ((k - 1) / 2)) = false
def firstF (n : Nat) (f : Nat → It) (i : Nat) : Nat :=
  if 2 * i + 2 < n ∧ ltH (f (2 * i + 2)) (f (if 2 * i + 1 < n ∧ ltH (f (2 * i + 1)) (f i) = true then 2 * i + 1 else i)) = true then 2 * i + 2
  else if 2 * i + 1 < n ∧ ltH (f (2 * i + 1)) (f i) = true then 2 * i + 1 else i
theorem first_cases (n : Nat) (f : Nat → It) (i : Nat) :
    (firstF n f i = i ∧ (2 * i + 1 < n → ltH (f (2 * i + 1)) (f i) = false) ∧ (2 * i + 2 < n → ltH (f (2 * i + 2)) (f i) = false)) ∨
    (firstF n f i = 2 * i + 1 ∧ 2 * i + 1 < n ∧ ltH (f (2 * i + 1)) (f i) = true ∧ (2 * i + 2 < n → ltH (f (2 * i + 2)) (f (2 * i + 1)) = false)) ∨
    (firstF n f i = 2 * i + 2 ∧ 2 * i + 2 < n ∧ ltH (f (2 * i + 2)) (f i) = true ∧ ltH (f (2 * i + 1)) (f (2 * i + 2)) = false) := by
  unfold firstF
  by_cases h1 : 2 * i + 1 < n ∧ ltH (f (2 * i + 1)) (f i) = true
  · rw [if_pos h1]
    by_cases h2 : 2 * i + 2 < n ∧ ltH (f (2 * i + 2)) (f (2 * i + 1)) = true
    · rw [if_pos h2]
      refine .inr (.inr ⟨rfl, h2.1, ?_, lt_le h2.2⟩)
      cases h3 : ltH (f (2 * i + 2)) (f i) with
      | true => rfl
      | false =>
        have := le_go h3 (lt_le h2.2)
        rw [this] at h1
        exact absurd h1.2 (by simp)
    · rw [if_neg h2]
      refine .inr (.inl ⟨rfl, h1.1, h1.2, fun h => ?_⟩)
      cases h3 : ltH (f (2 * i + 2)) (f (2 * i + 1)) with
      | true => exact absurd ⟨h, h3⟩ h2
      | false => rfl
  · rw [if_neg h1]
    have h1' : 2 * i + 1 < n → ltH (f (2 * i + 1)) (f i) = false := fun h => by
      cases h3 : ltH (f (2 * i + 1)) (f i) with
      | true => exact absurd ⟨h, h3⟩ h1
      | false => rfl
    by_cases h2 : 2 * i + 2 < n ∧ ltH (f (2 * i + 2)) (f i) = true
    · rw [if_pos h2]
      exact .inr (.inr ⟨rfl, h2.1, h2.2, le_go (lt_le h2.2) (h1' (by omega))⟩)
    · rw [if_neg h2]
      refine .inl ⟨rfl, h1', fun h => ?_⟩
      cases h3 : ltH (f (2 * i + 2)) (f i) with
      | true => exact absurd ⟨h, h3⟩ h2
      | false => rfl
theorem first_lt {n : Nat} {f : Nat → It} {i : Nat} (hi : i < n) : firstF n f i < n := by
  rcases first_cases n f i with ⟨h, _⟩ | ⟨h, h2, _⟩ | ⟨h, h2, _⟩ <;> omega
theorem first_ge {n : Nat} {f : Nat → It} {i : Nat} (h : firstF n f i ≠ i) : i < firstF n f i := by
  rcases first_cases n f i with ⟨h, _⟩ | ⟨h, h2, _⟩ | ⟨h, h2, _⟩ <;> omega
/-- An item sinks (q: at most so often). -/
def sinkF : Nat → Nat → (Nat → It) → Nat → (Nat → It)
  | 0, _, f, _ => f
  | q + 1, n, f, i => if firstF n f i = i then f else sinkF q n (sw i (firstF n f i) f) (firstF n f i)
theorem sink_perm : ∀ (q n : Nat) (f : Nat → It) (i : Nat), i < n → (ls n (sinkF q n f i)).Perm (ls n f)
  | 0, _, _, _, _ => List.Perm.refl _
  | q + 1, n, f, i, hi => by
    unfold sinkF
    by_cases h : firstF n f i = i
    · rw [if_pos h]
    · rw [if_neg h]
      exact (sink_perm q n _ _ (first_lt hi)).trans (sw_perm f hi (first_lt hi))
theorem sink_mem {P : It → Prop} : ∀ (q n : Nat) (f : Nat → It) (i : Nat), i < n → (∀ p, p < n → P (f p)) → ∀ p, p < n → P (sinkF q n f i p)
  | 0, _, _, _, _, h => h
  | q + 1, n, f, i, hi, h => by
    unfold sinkF
    by_cases h2 : firstF n f i = i
    · rw [if_pos h2]; exact h
    · rw [if_neg h2]
      exact sink_mem q n _ _ (first_lt hi) (sw_mem hi (first_lt hi) h)
/-- All but what lies below i, and that lies behind what is above i. -/
def Inv (lo n i : Nat) (f : Nat → It) : Prop :=
  (∀ k, 0 < k → k < n → lo ≤ (k - 1) / 2 → (k - 1) / 2 ≠ i → ltH (f k) (f ((k - 1) / 2)) = false) ∧
  (∀ k, 0 < k → k < n → (k - 1) / 2 = i → 0 < i → lo ≤ (i - 1) / 2 → ltH (f k) (f ((i - 1) / 2)) = false)
theorem inv_step {lo n i c d : Nat} {f : Nat → It} (h : Inv lo n i f) (hlo : lo ≤ i) (hc : c < n) (hci : (c - 1) / 2 = i) (hc0 : 0 < c) (hl : ltH (f c) (f i) = true)
    (hd : ∀ k, 0 < k → k < n → (k - 1) / 2 = i → k ≠ c → ltH (f k) (f c) = false) (hlt : i < c) : Inv lo n c (sw i c f) := by
  refine ⟨fun k k0 kn kl kp => ?_, fun k k0 kn kp c0 cl => ?_⟩
  · by_cases h1 : k = i
    · subst h1
      rw [sw_i, sw_n f (by omega) (by omega)]
      exact h.2 c hc0 hc hci k0 kl
    · by_cases h2 : k = c
      · subst h2
        rw [sw_j, hci, sw_i]
        exact lt_le hl
      · rw [sw_n f h1 h2]
        by_cases h3 : (k - 1) / 2 = i
        · rw [h3, sw_i]
          exact hd k k0 kn h3 h2
        · rw [sw_n f h3 kp]
          exact h.1 k k0 kn kl h3
  · rw [hci, sw_i, sw_n f (by omega) (by omega)]
    have := h.1 k k0 kn (by omega) (by omega)
    rw [kp] at this
    exact this
theorem sink_heap : ∀ (q lo n : Nat) (f : Nat → It) (i : Nat), i < n → n ≤ q + i → lo ≤ i → Inv lo n i f → HpF lo n (sinkF q n f i)
  | 0, lo, n, f, i, hi, hq, _, _ => by omega
  | q + 1, lo, n, f, i, hi, hq, hlo, h => by
    unfold sinkF
    rcases first_cases n f i with ⟨e, a, b⟩ | ⟨e, e2, a, b⟩ | ⟨e, e2, a, b⟩
    · rw [if_pos e]
      intro k k0 kn kl
      by_cases h1 : (k - 1) / 2 = i
      · rw [h1]
        rcases (by omega : k = 2 * i + 1 ∨ k = 2 * i + 2) with rfl | rfl
        · exact a kn
        · exact b kn
      · exact h.1 k k0 kn kl h1
    · rw [if_neg (by omega), e]
      refine sink_heap q lo n _ _ e2 (by omega) (by omega) (inv_step (d := 0) h hlo e2 (by omega) (by omega) a (fun k k0 kn kp kc => ?_) (by omega))
      have : k = 2 * i + 2 := by omega
      subst this
      exact b kn
    · rw [if_neg (by omega), e]
      refine sink_heap q lo n _ _ e2 (by omega) (by omega) (inv_step (d := 0) h hlo e2 (by omega) (by omega) a (fun k k0 kn kp kc => ?_) (by omega))
      have : k = 2 * i + 1 := by omega
      subst this
      exact b
/-- Items sink, from the j-th on towards the first. -/
def makeF : Nat → Nat → (Nat → It) → (Nat → It)
  | 0, _, f => f
  | j + 1, n, f => makeF j n (sinkF n n f j)
theorem make_perm : ∀ (j n : Nat) (f : Nat → It), j ≤ n → (ls n (makeF j n f)).Perm (ls n f)
  | 0, _, _, _ => List.Perm.refl _
  | j + 1, n, f, hj => by
    unfold makeF
    exact (make_perm j n _ (by omega)).trans (sink_perm n n f j (by omega))
theorem make_heap : ∀ (j n : Nat) (f : Nat → It), j ≤ n → HpF j n f → HpF 0 n (makeF j n f)
  | 0, _, _, _, h => h
  | j + 1, n, f, hj, h => by
    unfold makeF
    refine make_heap j n _ (by omega) (sink_heap n j n f j (by omega) (by omega) (Nat.le_refl _) ⟨fun k k0 kn kl kp => h k k0 kn (by omega), fun k k0 kn kp i0 il => by omega⟩)
theorem make_start (n : Nat) (f : Nat → It) : HpF (n / 2) n f := fun k k0 kn kl => by omega
/-- An item rises (q: at most so often). -/
def riseF : Nat → (Nat → It) → Nat → (Nat → It)
  | 0, f, _ => f
  | q + 1, f, i => if 0 < i ∧ ltH (f i) (f ((i - 1) / 2)) = true then riseF q (sw i ((i - 1) / 2) f) ((i - 1) / 2) else f
theorem rise_perm : ∀ (q n : Nat) (f : Nat → It) (i : Nat), i < n → (ls n (riseF q f i)).Perm (ls n f)
  | 0, _, _, _, _ => List.Perm.refl _
  | q + 1, n, f, i, hi => by
    unfold riseF
    by_cases h : 0 < i ∧ ltH (f i) (f ((i - 1) / 2)) = true
    · rw [if_pos h]
      exact (rise_perm q n _ _ (by omega)).trans (sw_perm f hi (by omega))
    · rw [if_neg h]
def Inv2 (n i : Nat) (f : Nat → It) : Prop :=
  (∀ k, 0 < k → k < n → k ≠ i → ltH (f k) (f ((k - 1) / 2)) = false) ∧ (∀ k, 0 < k → k < n → (k - 1) / 2 = i → 0 < i → ltH (f k) (f ((i - 1) / 2)) = false)
theorem inv2_step {n i p : Nat} {f : Nat → It} (h : Inv2 n i f) (hi : i < n) (i0 : 0 < i) (hp : p = (i - 1) / 2) (hl : ltH (f i) (f p) = true) : Inv2 n p (sw i p f) := by
  have hpi : p < i := by omega
  refine ⟨fun k k0 kn kp => ?_, fun k k0 kn kp p0 => ?_⟩
  · by_cases h1 : k = i
    · subst h1
      rw [sw_i, ← hp, sw_j]
      exact lt_le hl
    · rw [sw_n f h1 kp]
      by_cases h3 : (k - 1) / 2 = i
      · rw [h3, sw_i, hp]
        exact h.2 k k0 kn h3 i0
      · by_cases h4 : (k - 1) / 2 = p
        · rw [h4, sw_j]
          have := h.1 k k0 kn h1
          rw [h4] at this
          exact le_go (lt_le hl) this
        · rw [sw_n f h3 h4]
          exact h.1 k k0 kn h1
  · rw [sw_n f (i := i) (j := p) (p := (p - 1) / 2) (by omega) (by omega)]
    have hb := h.1 p p0 (by omega) (by omega)
    by_cases h1 : k = i
    · subst h1
      rw [sw_i]
      exact hb
    · rw [sw_n f h1 (by omega)]
      have := h.1 k k0 kn h1
      rw [kp] at this
      exact le_go hb this
theorem rise_heap : ∀ (q n : Nat) (f : Nat → It) (i : Nat), i < n → i ≤ q → Inv2 n i f → HpF 0 n (riseF q f i)
  | 0, n, f, i, hi, hq, h => fun k k0 kn _ => h.1 k k0 kn (by omega)
  | q + 1, n, f, i, hi, hq, h => by
    unfold riseF
    by_cases hc : 0 < i ∧ ltH (f i) (f ((i - 1) / 2)) = true
    · rw [if_pos hc]
      exact rise_heap q n _ _ (by omega) (by omega) (inv2_step h hi hc.1 rfl hc.2)
    · rw [if_neg hc]
      intro k k0 kn _
      by_cases h1 : k = i
      · subst h1
        cases h3 : ltH (f k) (f ((k - 1) / 2)) with
        | true => exact absurd ⟨k0, h3⟩ hc
        | false => rfl
      · exact h.1 k k0 kn h1
/-- The first of a heap stands no later than any other. -/
theorem heap_first {n : Nat} {f : Nat → It} (h : HpF 0 n f) : ∀ k, k < n → ltH (f k) (f 0) = false := by
  intro k
  induction k using Nat.strongRecOn with
  | ind k ih =>
    intro hk
    rcases Nat.eq_zero_or_pos k with rfl | k0
    · exact le_self _
    · exact le_go (ih ((k - 1) / 2) (by omega) (by omega)) (h k k0 hk (Nat.zero_le _))
/-! Of lists. -/
def fn (l : List It) : Nat → It := fun i => l[i]!
def Heap (l : List It) : Prop := HpF 0 l.length (fn l)
def rightB (l : List It) : Bool := (List.range l.length).all fun k => decide (k = 0) || !ltH (fn l k) (fn l ((k - 1) / 2))
theorem right_iff (l : List It) : rightB l = true ↔ Heap l := by
  unfold rightB Heap HpF
  rw [List.all_eq_true]
  constructor
  · intro h k k0 kn _
    have := h k (List.mem_range.2 kn)
    simp at this
    rcases this with h | h
    · omega
    · exact h
  · intro h k hk
    rcases Nat.eq_zero_or_pos k with rfl | k0
    · simp
    · simp [h k k0 (List.mem_range.1 hk) (Nat.zero_le _)]
theorem heap_ls {n : Nat} {f : Nat → It} (h : HpF 0 n f) : Heap (ls n f) := by
  unfold Heap
  rw [ls_length]
  intro k k0 kn kl
  show ltH (ls n f)[k]! (ls n f)[(k - 1) / 2]! = false
  rw [ls_bang f kn, ls_bang f (by omega)]
  exact h k k0 kn kl
def makeH (l : List It) : List It := ls l.length (makeF (l.length / 2) l.length (fn l))
theorem makeH_perm (l : List It) : (makeH l).Perm l := by
  have := make_perm (l.length / 2) l.length (fn l) (by omega)
  rwa [show ls l.length (fn l) = l from ls_of l] at this
theorem makeH_heap (l : List It) : Heap (makeH l) := heap_ls (make_heap _ _ _ (by omega) (make_start _ _))
def pushH (l : List It) (x : It) : List It := ls (l.length + 1) (riseF l.length (fn (l ++ [x])) l.length)
theorem pushH_perm (l : List It) (x : It) : (pushH l x).Perm (x :: l) := by
  have h := rise_perm l.length (l.length + 1) (fn (l ++ [x])) l.length (by omega)
  have e : ls (l.length + 1) (fn (l ++ [x])) = l ++ [x] := by
    have := ls_of (l ++ [x])
    rw [List.length_append] at this
    exact this
  rw [e] at h
  exact h.trans (List.perm_append_singleton x l)
theorem fn_left {l m : List It} {i : Nat} (h : i < l.length) : fn (l ++ m) i = fn l i := by
  unfold fn
  rw [getElem!_pos (l ++ m) i (by rw [List.length_append]; omega), getElem!_pos l i h, List.getElem_append_left h]
theorem pushH_heap {l : List It} (x : It) (h : Heap l) : Heap (pushH l x) := by
  refine heap_ls (rise_heap _ _ _ _ (by omega) (Nat.le_refl _) ⟨fun k k0 kn kp => ?_, fun k k0 kn kp i0 => by omega⟩)
  rw [fn_left (by omega), fn_left (by omega)]
  exact h k k0 (by omega) (Nat.zero_le _)
/-- What is left of a heap whose first item goes. -/
def popH (l : List It) : List It := if l.length ≤ 1 then [] else ls (l.length - 1) (sinkF (l.length - 1) (l.length - 1) (fun i => if i = 0 then fn l (l.length - 1) else fn l i) 0)
theorem popH_length (l : List It) : (popH l).length = l.length - 1 := by
  unfold popH
  by_cases h : l.length ≤ 1
  · rw [if_pos h]; simp; omega
  · rw [if_neg h, ls_length]
theorem popH_heap {l : List It} (h : Heap l) : Heap (popH l) := by
  unfold popH
  by_cases h1 : l.length ≤ 1
  · rw [if_pos h1]; intro k k0 kn; simp at kn
  · rw [if_neg h1]
    refine heap_ls (sink_heap _ 0 _ _ 0 (by omega) (by omega) (Nat.le_refl _) ⟨fun k k0 kn kl kp => ?_, fun k k0 kn kp i0 => by omega⟩)
    show ltH (if k = 0 then fn l (l.length - 1) else fn l k) (if (k - 1) / 2 = 0 then fn l (l.length - 1) else fn l ((k - 1) / 2)) = false
    rw [if_neg (by omega), if_neg kp]
    exact h k k0 (by omega) kl
theorem popH_perm {l : List It} (h : 0 < l.length) : (fn l 0 :: popH l).Perm l := by
  unfold popH
  by_cases h1 : l.length ≤ 1
  · rw [if_pos h1]
    match l, h, h1 with
    | [x], _, _ => exact List.Perm.refl _
  · rw [if_neg h1]
    refine ((sink_perm (l.length - 1) (l.length - 1) _ 0 (by omega)).cons (fn l 0)).trans ?_
    have e : l = ls (l.length - 1) (fn l) ++ [fn l (l.length - 1)] := by
      rw [← ls_succ, Nat.sub_add_cancel h]
      exact (ls_of l).symm
    have e2 : ∀ (m : Nat) (x : It), ls (m + 1) (fun i => if i = 0 then x else fn l i) = x :: (ls (m + 1) (fn l)).tail := by
      intro m x
      unfold ls
      rw [List.range_succ_eq_map, List.map_cons, List.map_cons, List.tail_cons, if_pos rfl, List.map_map, List.map_map]
      congr 1
    have e3 : ∀ m, fn l 0 :: (ls (m + 1) (fn l)).tail = ls (m + 1) (fn l) := by
      intro m
      unfold ls
      rw [List.range_succ_eq_map, List.map_cons, List.tail_cons]
    obtain ⟨m, hm⟩ : ∃ m, l.length - 1 = m + 1 := ⟨l.length - 2, by omega⟩
    generalize fn l (l.length - 1) = y at *
    rw [hm] at e ⊢
    rw [e2]
    refine (List.Perm.swap _ _ _).trans ?_
    rw [e3 m]
    refine (List.perm_append_singleton _ _).symm.trans ?_
    rw [← e]
/-! Lists in order. -/
def Srt (l : List It) : Prop := l.Pairwise fun a b => ltH b a = false
def placeX (l : List It) (x : It) : Nat := (l.takeWhile fun y => !ltH x y).length
def putX (l : List It) (x : It) : List It := l.take (placeX l x) ++ x :: l.drop (placeX l x)
def sortX (l : List It) : List It := l.foldl putX []
theorem putX_eq (l : List It) (x : It) : putX l x = l.takeWhile (fun y => !ltH x y) ++ x :: l.dropWhile (fun y => !ltH x y) := by
  unfold putX placeX
  have e := List.takeWhile_append_dropWhile (p := fun y => !ltH x y) (l := l)
  have e1 : l.take (l.takeWhile fun y => !ltH x y).length = l.takeWhile fun y => !ltH x y := by
    conv => lhs; rw [← e]
    rw [List.take_left' (by rw [e])]
  have e2 : l.drop (l.takeWhile fun y => !ltH x y).length = l.dropWhile fun y => !ltH x y := by
    conv => lhs; rw [← e]
    rw [List.drop_left' (by rw [e])]
  rw [e1, e2]
theorem putX_perm (l : List It) (x : It) : (putX l x).Perm (x :: l) := by
  rw [putX_eq]
  refine List.perm_middle.trans ?_
  rw [List.takeWhile_append_dropWhile]
theorem putX_length (l : List It) (x : It) : (putX l x).length = l.length + 1 := (putX_perm l x).length_eq.trans (List.length_cons ..)
theorem putX_srt {l : List It} (x : It) (h : Srt l) : Srt (putX l x) := by
  unfold Srt at *
  induction l with
  | nil => simp [putX_eq]
  | cons y r ih =>
    rw [List.pairwise_cons] at h
    rw [putX_eq] at ih ⊢
    by_cases hy : ltH x y = true
    · rw [List.takeWhile_cons, List.dropWhile_cons, hy]
      simp only [Bool.not_true, Bool.false_eq_true, if_false, List.nil_append]
      rw [List.pairwise_cons]
      refine ⟨fun z hz => ?_, List.pairwise_cons.2 h⟩
      rcases List.mem_cons.1 hz with rfl | hz
      · exact lt_le hy
      · exact le_go (lt_le hy) (h.1 z hz)
    · have hy' : ltH x y = false := by simpa using hy
      rw [List.takeWhile_cons, List.dropWhile_cons, hy']
      simp only [Bool.not_false, if_true, List.cons_append]
      rw [List.pairwise_cons]
      refine ⟨fun z hz => ?_, ih h.2⟩
      have hm : z ∈ x :: r := by
        have := putX_perm r x
        rw [putX_eq] at this
        exact this.mem_iff.1 hz
      rcases List.mem_cons.1 hm with rfl | hm
      · exact hy'
      · exact h.1 z hm
theorem sort_run : ∀ (l a : List It), Srt a → Srt (l.foldl putX a) ∧ (l.foldl putX a).Perm (a ++ l)
  | [], a, h => ⟨h, by simp⟩
  | x :: r, a, h => by
    obtain ⟨h1, h2⟩ := sort_run r (putX a x) (putX_srt x h)
    refine ⟨h1, h2.trans ?_⟩
    have := (putX_perm a x).append_right r
    exact this.trans (List.perm_middle (l₁ := a) (a := x) (l₂ := r)).symm
theorem sortX_srt (l : List It) : Srt (sortX l) := (sort_run l [] List.Pairwise.nil).1
theorem sortX_perm (l : List It) : (sortX l).Perm l := by have h := (sort_run l [] List.Pairwise.nil).2; rwa [List.nil_append] at h
theorem srt_one {l m : List It} (h1 : Srt l) (h2 : Srt m) (h : l.Perm m) : l = m :=
  List.Perm.eq_of_pairwise (fun a b _ _ hab hba => le_one hab hba) h1 h2 h
/-- What is popped of a heap is the first of its items in order; what is left are the others. -/
theorem pop_first {l q : List It} (hh : Heap l) (hq : Srt q) (h : l.Perm q) (h0 : 0 < l.length) : fn l 0 = fn q 0 ∧ (popH l).Perm (q.drop 1) := by
  match q, hq, h with
  | [], _, h => rw [h.length_eq] at h0; exact absurd h0 (by simp)
  | y :: r, hq, h =>
    have h1 : ltH y (fn l 0) = false := by
      obtain ⟨i, hi, e⟩ := List.getElem_of_mem (h.mem_iff.2 (List.mem_cons_self ..))
      have := heap_first hh i hi
      rwa [show fn l i = y from (getElem!_pos l i hi).trans e] at this
    have h2 : ltH (fn l 0) y = false := by
      have hm : fn l 0 ∈ y :: r := h.mem_iff.1 (by rw [show fn l 0 = l[0] from getElem!_pos l 0 h0]; exact List.getElem_mem _)
      rcases List.mem_cons.1 hm with e | e
      · rw [e]; exact le_self _
      · exact (List.pairwise_cons.1 hq).1 _ e
    have e : fn l 0 = y := le_one h1 h2
    refine ⟨e, ?_⟩
    have := (popH_perm h0).trans h
    rw [e] at this
    exact List.Perm.cons_inv this
end Go.Proofs.Ytgnjbbohphoojaa.Hp
/- Items in memory: appended; slices.Grow, Concat, Clone at []heap.Item, walked in the library's own text. -/
namespace Go.Proofs.Ytgnjbbohphoojaa.Hp
set_option maxRecDepth 100000
open Go.ChangeShapes Go.WideShapes Go.ChangeAt Go.RowKit
open Dec Words V4 V6 Ad Ci En Go.Deep
set_option linter.unusedVariables false
abbrev Items (w : World) (v : Value) (l : List It) : Prop := Recs 5 encI w v l
theorem low_trans3 {B : Nat} {a b c : World} (h : Below B a b) (k : Lows b c) (hB : B ≤ a.heap.size := by exact Nat.le_refl _) : Below B a c := h.trans (k.mono (Nat.le_trans hB h.size))
/-- A place of a list that came in. -/
theorem item_at {w : World} {bb o : Nat} {l : List It} {wr : World} (hlow : Below w.heap.size w wr) (hb : bb < w.heap.size) (hcc : ∀ i (h : i < l.length) j u, (encI l[i])[j]? = some u → w.cell? ⟨bb, o + i * 5 + j, none⟩ = some u) {i : Nat} (hi : i < l.length) {j : Nat} {u : Value} (hu : (encI (fn l i))[j]? = some u) : wr.cell? ⟨bb, o + i * 5 + j, none⟩ = some u := by
  rw [show fn l i = l[i] from getElem!_pos l i hi] at hu
  exact (hlow.cell (p := ⟨bb, o + i * 5 + j, none⟩) hb).trans (hcc i hi j u hu)
abbrev OwnI (B : Nat) (w : World) (v : Value) (l : List It) : Prop := w.ownsRow B 57 5 v l.length (flat encI l)
theorem ownI_lit (W : World) {B : Nat} (hB : B ≤ W.heap.size) : OwnI B (W.alloc (.cells #[] 57)) (.slice (some ⟨W.heap.size, 0, none⟩) 0 0) [] := World.ownsRow_made W #[] 0 hB (by simp [maxLen]) rfl
theorem ownI_nil (W : World) (B : Nat) : OwnI B W (.slice none 0 0) [] := ⟨rfl, Or.inl ⟨rfl, rfl⟩⟩
theorem append_Is {B : Nat} {W : World} {v x : Value} {xs ys : List It} (hown : OwnI B W v xs) (hy : Items W x ys) (hlen : xs.length + ys.length ≤ 1000000) (hB : B ≤ W.heap.size) :
    ∃ v' w', (Builtin.append_ #[55, 55] 55 #[v, x]).run Try.prog W = .ok v' w' ∧ OwnI B w' v' (xs ++ ys) ∧ Below B W w' ∧ ∀ k, k < W.heap.size → some k ≠ v.ownBlock → w'.heap[k]? = W.heap[k]? := by
  obtain ⟨i, hi, hz0, hz1, hz2⟩ := info_parts (P := Try.prog) (e := 57) (z := .agg #[.int .i64 0, .bool false, .int .u64 0, .int .u64 0, .int .i64 0]) (size := 5) (bytes := 40) (by kernel_rfl)
  obtain ⟨A, c, rfl, hc, hnil, hcell⟩ := hy
  cases A with
  | none =>
    obtain rfl := hnil rfl
    obtain rfl : ys = [] := List.eq_nil_of_length_eq_zero (by omega)
    have hr := run_append_owned_none (P := Try.prog) (w := W) B 55 55 57 i 5 Try.underlying55 hi v xs.length (flat encI xs) hown
    refine ⟨v, W, hr, ?_, Below.refl _ _, fun _ _ _ => rfl⟩
    rw [List.append_nil]; exact hown
  | some a =>
    obtain ⟨v', w', hr, h2, h3, _⟩ := run_append_own (P := Try.prog) W B 55 55 57 i _ 5 40 Try.underlying55 hi hz0 hz1 hz2 rfl (by decide) v xs.length (flat encI xs) hown
      a ys.length c (flat encI ys) (flat_len encI_len ys) (fun j u hj => by
        have hlt : j < ys.length * 5 := by have := (List.getElem?_eq_some_iff.1 hj).1; rwa [flat_len encI_len] at this
        have hq : j / 5 < ys.length := by omega
        have hjm : j = j / 5 * 5 + j % 5 := by omega
        rw [hjm, flat_at encI_len ys _ _ hq (Nat.mod_lt _ (by decide))] at hj
        obtain ⟨b, o, e, _, hcc⟩ := hcell (Nat.lt_of_le_of_lt (Nat.zero_le _) hq)
        obtain rfl : a = ⟨b, o, none⟩ := Option.some.inj e
        rw [add_plain, hjm, ← Nat.add_assoc]
        exact hcc _ hq _ _ hj) (fun u hu => by
        obtain ⟨y, _, hu2⟩ := List.mem_flatMap.1 hu
        exact encI_one y u hu2) (by simp only [maxLen]; omega) (by omega) hB
    refine ⟨v', w', hr, ?_, (Below.refl B W).grown h3 hB (fun k hk => (hown.lt k hk).1), fun k h1 h2 => h3.block k h1 h2⟩
    unfold OwnI
    rw [List.length_append, flat_append]
    exact h2
theorem append_I {B : Nat} {W : World} {v : Value} {xs : List It} (hown : OwnI B W v xs) (y : It) (hlen : xs.length ≤ 900000) (hB : B ≤ W.heap.size) :
    ∃ v' w', (Builtin.append_ #[55, 55] 55 #[v, .slice (some ⟨W.heap.size, 0, none⟩) 1 1]).run Try.prog (W.alloc (.cells #[.int .i64 y.k, .bool y.e.a.v6, .int .u64 y.e.a.hi, .int .u64 y.e.a.lo, .int .i64 y.e.n] 57)) = .ok v' w' ∧ OwnI B w' v' (xs ++ [y]) ∧ Below B W w' := by
  obtain ⟨v', w', h1, h2, h3, _⟩ := append_Is (B := B) (hown.alloc (.cells #[.int .i64 y.k, .bool y.e.a.v6, .int .u64 y.e.a.hi, .int .u64 y.e.a.lo, .int .i64 y.e.n] 57)) (Recs.lit encI_len W [y] #[.int .i64 y.k, .bool y.e.a.v6, .int .u64 y.e.a.hi, .int .u64 y.e.a.lo, .int .i64 y.e.n] 57 (by rw [flat_one]; rfl)) (by simp; omega) (Nat.le_trans hB (by simp))
  exact ⟨v', w', h1, h2, ((Below.refl B W).alloc hB _).trans h3⟩
theorem ownI_items {B : Nat} {w : World} {v : Value} {l : List It} (h : OwnI B w v l) : Items w v l := (recs_own encI_len (by decide) h).1
section
variable {P : Program}
/-- 'append(s, make([]T, n)...)' at a nil slice. -/
theorem run_append_zeros (w : World) (t u ty e : TypeId) (i : TypeInfo) (z : Value) (kd : IntKind) (ht : P.underlying t = some (.slice e)) (hu : P.underlying u = some (.int kd)) (hi : P.info? e = some i) (hz : i.zero = some z)
    (n : Nat) (h0 : 0 < n) (hs : 0 < i.size) (h63 : (n : Int) ≤ 9223372036854775807) (h48 : n * i.bytes ≤ 281474976710656) :
    (Builtin.append_ #[t, u] ty #[.slice none 0 0, .int .i64 n]).run P w =
      .ok (.slice (some ⟨w.heap.size, 0, none⟩) n (grownCap w n 0 e)) (w.drew.alloc (.cells (Builtin.zeroCells z.cells n ++ Builtin.zeroCells z.cells (grownCap w n 0 e - n)) e)) := by
  have hn : n ≠ 0 := by omega
  have hw : IntKind.i64.wrap (n : Int) = (n : Int) := by rw [IntKind.wrap_i64]; omega
  have hng : ¬ ((n : Int) < 0) := by omega
  have h48' : ¬ (281474976710656 < Builtin.nextslicecap n 0 * i.bytes) := by rw [nextslicecap_zero h0]; omega
  have h48'' : ¬ (281474976710656 < (n : Int) * (i.bytes : Int)) := by
    have : ((n * i.bytes : Nat) : Int) ≤ 281474976710656 := by omega
    rw [Int.natCast_mul] at this
    omega
  have hm : ¬ (n * i.size = 0) := by
    intro h
    rcases Nat.mul_eq_zero.1 h with h | h <;> omega
  have h63' : ¬ (9223372036854775807 < (n : Int)) := by omega
  have hmx : max (n : Int) 0 = (n : Int) := by omega
  simp [Builtin.append_, run_underlying ht, run_underlying hu, sizeOf, typeInfo, zeroValue, hi, hz, asInt, asIntOf, hw, hng, hn, hm, h48', h48'', h63', hmx, Question.forced, run_firstCells_none, newRow, grownCap]
theorem wpList_append_run2 {w : World} {ops : Array Oper} {rest : List Oper} {o : Oper} {a : Act} {Q : Exit → Act → World → Prop} (hgd : o.guard = none) (s x : Operand) (t u ty : TypeId)
    (ho : o.op = .call { callee := .builtin .append, args := #[s, x], argTypes := #[t, u] }) (hty : o.type = ty) (vs vx v : Value) (w' : World) (hs : a.eval s = vs) (hx : a.eval x = vx)
    (hrun : (Builtin.append_ #[t, u] ty #[vs, vx]).run P w = .ok v w') (h : wpList P ops Q rest (a.put o.dst v) w') : wpList P ops Q (o :: rest) a w := by
  subst hty
  refine wpList_plain hgd fun K hK => ?_
  unfold Oper.wp
  simp [execOp, ho, resolve, invoke, builtin, hs, hx, hrun, Result.andThen]
  exact hK _ _ h
end
theorem eql_nil_slice (a : Option Addr) (l c : Nat) (w : World) : (binOp .eql 55 (.slice a l c) (.slice none 0 0)).run Try.prog w = .ok (.bool a.isNone) w := by
  simp only [binOp]
  simp [run_equal_slice_nil w 55 57 a l c Try.underlying55]
set_option maxHeartbeats 4000000 in
theorem clone_any (v : Value) (l : List It) (w : World) (h : Items w v l) (hl : l.length ≤ 900000) :
    Calls Try.prog 26 #[v] w fun e w' => ∃ u, e = .returned u ∧ OwnI w.heap.size w' u l ∧ Below w.heap.size w w' := by
  have PW := Lib.hid h
  obtain ⟨A, c, rfl, hc, hnil, hcell⟩ := h
  clear hcell
  cases A with
  | none =>
    obtain rfl := hnil rfl
    have h0 : l = [] := List.eq_nil_of_length_eq_zero (by omega)
    subst h0
    clear hc hnil PW
    have EN := fun W => eql_nil_slice none 0 0 W
    go_enter Try.func26, Try.ntmps26
    go_wp2_with fail
    go_ret
    exact ⟨_, rfl, ⟨rfl, Or.inl ⟨rfl, rfl⟩⟩, Below.refl _ _⟩
  | some a =>
    obtain ⟨v2, w2, R2, O2, b2, _⟩ := append_Is (B := w.heap.size) (ownI_lit w (Nat.le_refl _)) (PW.out.below ((Below.refl _ _).alloc (Nat.le_refl _) (.cells #[] 57))) (by simp; omega) (by simp)
    have R1 := Lib.hid R2
    have HP := Lib.hid O2
    have HL : Hid (Below w.heap.size w w2) := Lib.hid (((Below.refl _ _).alloc (Nat.le_refl _) _).trans b2)
    clear R2 O2 b2 PW hnil
    have EN := fun W => eql_nil_slice (some a) l.length c W
    go_enter Try.func26, Try.ntmps26
    go_wp2_with (first
      | (at_builtin; refine wpList_append_run rfl (.tmp 5) (.tmp 6) _ _ rfl rfl _ _ _ _ rfl rfl R1.out ?_)
      | fail)
    go_ret
    exact ⟨_, rfl, HP.out, HL.out⟩
end Go.Proofs.Ytgnjbbohphoojaa.Hp
/- heap.compare and what it calls: what it tells, and that the count of draws never falls. -/
namespace Go.Proofs.Ytgnjbbohphoojaa.Hp
set_option maxRecDepth 100000
open Go.ChangeShapes Go.WideShapes Go.ChangeAt Go.RowKit
open Dec Words V4 V6 Ad Ci En Go.Deep
set_option linter.unusedVariables false
/-- A world behind another one: nothing of that one is changed, and the draws are behind its draws. -/
def Gr (w w' : World) : Prop := Below w.heap.size w w' ∧ w.drawn ≤ w'.drawn
theorem Gr.refl (w : World) : Gr w w := ⟨Below.refl _ _, Nat.le_refl _⟩
theorem Gr.trans {a b c : World} (h : Gr a b) (k : Gr b c) : Gr a c := ⟨low_trans h.1 k.1, Nat.le_trans h.2 k.2⟩
theorem Gr.drew {a b : World} (h : Gr a b) : Gr a b.drew := ⟨low_drewN h.1 1, Nat.le_trans h.2 (Nat.le_succ _)⟩
theorem Gr.alloc {a b : World} (h : Gr a b) (o : Obj) : Gr a (b.alloc o) := ⟨Below.alloc h.1 h.1.size o, h.2⟩
theorem Gr.two (w : World) (o p : Obj) : Gr w ((w.alloc o).alloc p) := ((Gr.refl w).alloc o).alloc p
/-- Such a world is that one after some draws, with some blocks behind it. -/
theorem Gr.grown {w w' : World} (h : Gr w w') : ∃ q os, w' = Sort.grow (w.drewN q) os := by
  obtain ⟨⟨h1, h2, h3, h4, h5⟩, h6⟩ := h
  refine ⟨w'.drawn - w.drawn, w'.heap.extract w.heap.size w'.heap.size, ?_⟩
  obtain ⟨hp, tp, dr, o, out⟩ := w
  obtain ⟨hp', tp', dr', o', out'⟩ := w'
  simp only at h1 h2 h3 h4 h5 h6
  subst h1 h2 h3
  have e1 : hp ++ hp'.extract hp.size hp'.size = hp' := by
    refine Array.ext (by simp; omega) fun i i1 i2 => ?_
    by_cases hi : i < hp.size
    · rw [Array.getElem_append_left hi]
      have := h5 i hi
      rw [Array.getElem?_eq_getElem i2, Array.getElem?_eq_getElem hi] at this
      exact (Option.some.inj this).symm
    · rw [Array.getElem_append_right (by omega), Array.getElem_extract]
      congr 1
      omega
  have e2 : dr + (dr' - dr) = dr' := by omega
  simp only [Sort.grow, World.drewN, e1, e2]
theorem beforeG_any (a b : Adr) (w : World) (ha : a.ok) (hb : b.ok) :
    Calls Try.prog 73 #[.agg #[.bool a.v6, .int .u64 a.hi, .int .u64 a.lo], .agg #[.bool b.v6, .int .u64 b.hi, .int .u64 b.lo]] w fun e w' => e = .returned (.bool (lessA a b)) ∧ Gr w w' := by
  by_cases hv : a.v6 = b.v6
  · obtain ⟨v1, v2, v3⟩ := bby hv
    by_cases hh : a.hi = b.hi
    · have E : Hid (lessA a b = decide (a.lo < b.lo)) := Lib.hid (by unfold lessA; rw [if_pos hv, if_pos hh])
      obtain ⟨i1, i2⟩ := iiy hh
      clear hv hh
      go_enter Try.func73, Try.ntmps73
      go_wp2
      go_ret
      exact ⟨ret_b E.out.symm, Gr.two _ _ _⟩
    · have E : Hid (lessA a b = decide (a.hi < b.hi)) := Lib.hid (by unfold lessA; rw [if_pos hv, if_neg hh])
      obtain ⟨i1, i2⟩ := iin hh
      clear hv hh
      go_enter Try.func73, Try.ntmps73
      go_wp2
      go_ret
      exact ⟨ret_b E.out.symm, Gr.two _ _ _⟩
  · obtain ⟨v1, v2, v3⟩ := bbn hv
    have E : Hid (lessA a b = b.v6) := Lib.hid (by unfold lessA; rw [if_neg hv])
    clear hv
    go_enter Try.func73, Try.ntmps73
    go_wp2
    go_ret
    exact ⟨ret_b E.out.symm, Gr.two _ _ _⟩
theorem compareA_any (a b : Adr) (w : World) (ha : a.ok) (hb : b.ok) :
    Calls Try.prog 59 #[.agg #[.bool a.v6, .int .u64 a.hi, .int .u64 a.lo], .agg #[.bool b.v6, .int .u64 b.hi, .int .u64 b.lo]] w fun e w' => e = .returned (.int .i64 (cmpA a b)) ∧ Gr w w' := by
  have EQ := fun W => eqAdr a b W
  cases hs : sameA a b
  · rw [hs] at EQ
    have BE := Lib.hid (beforeG_any a b)
    cases hl : lessA a b
    · have E : Hid (cmpA a b = 1) := Lib.hid (by unfold cmpA; rw [hs, hl]; rfl)
      rw [hl] at BE
      clear hs hl
      go_enter Try.func59, Try.ntmps59
      go_wp2_with fail
      refine (BE.out _ ha hb).mono ?_
      rintro e w1 ⟨rfl, hb1⟩
      go_wp2_with fail
      go_ret
      exact ⟨ret_i E.out.symm, (Gr.two _ _ _).trans hb1⟩
    · have E : Hid (cmpA a b = -1) := Lib.hid (by unfold cmpA; rw [hs, hl]; rfl)
      rw [hl] at BE
      clear hs hl
      go_enter Try.func59, Try.ntmps59
      go_wp2_with fail
      refine (BE.out _ ha hb).mono ?_
      rintro e w1 ⟨rfl, hb1⟩
      go_wp2_with fail
      go_ret
      exact ⟨ret_i E.out.symm, (Gr.two _ _ _).trans hb1⟩
  · rw [hs] at EQ
    have E : Hid (cmpA a b = 0) := Lib.hid (by unfold cmpA; rw [hs]; rfl)
    clear hs
    go_enter Try.func59, Try.ntmps59
    go_wp2_with fail
    go_ret
    exact ⟨ret_i E.out.symm, Gr.two _ _ _⟩
abbrev SEG (x y : Endp) (w w' : World) : Prop := w'.cell? ⟨w.heap.size, 0, none⟩ = some (.bool x.a.v6) ∧ w'.cell? ⟨w.heap.size, 1, none⟩ = some (.int .u64 x.a.hi) ∧ w'.cell? ⟨w.heap.size, 2, none⟩ = some (.int .u64 x.a.lo) ∧ w'.cell? ⟨w.heap.size, 3, none⟩ = some (.int .i64 x.n) ∧ w'.cell? ⟨w.heap.size + 1, 0, none⟩ = some (.bool y.a.v6) ∧ w'.cell? ⟨w.heap.size + 1, 1, none⟩ = some (.int .u64 y.a.hi) ∧ w'.cell? ⟨w.heap.size + 1, 2, none⟩ = some (.int .u64 y.a.lo) ∧ w'.cell? ⟨w.heap.size + 1, 3, none⟩ = some (.int .i64 y.n) ∧ Gr (((w.alloc (.cells #[.bool x.a.v6, .int .u64 x.a.hi, .int .u64 x.a.lo, .int .i64 x.n] 33)).alloc (.cells #[.bool y.a.v6, .int .u64 y.a.hi, .int .u64 y.a.lo, .int .i64 y.n] 33))) w'
theorem SEG.of {x y : Endp} {w w' : World} (h : Gr ((w.alloc (.cells #[.bool x.a.v6, .int .u64 x.a.hi, .int .u64 x.a.lo, .int .i64 x.n] 33)).alloc (.cells #[.bool y.a.v6, .int .u64 y.a.hi, .int .u64 y.a.lo, .int .i64 y.n] 33)) w') : SEG x y w w' := by
  have h0 : Blk w' w.heap.size 33 [.bool x.a.v6, .int .u64 x.a.hi, .int .u64 x.a.lo, .int .i64 x.n] := ((Blk.new w #[.bool x.a.v6, .int .u64 x.a.hi, .int .u64 x.a.lo, .int .i64 x.n] 33).alloc (.cells #[.bool y.a.v6, .int .u64 y.a.hi, .int .u64 y.a.lo, .int .i64 y.n] 33)).on h.1
  have h1 : Blk w' (w.heap.size + 1) 33 [.bool y.a.v6, .int .u64 y.a.hi, .int .u64 y.a.lo, .int .i64 y.n] := (Blk.two w (.cells #[.bool x.a.v6, .int .u64 x.a.hi, .int .u64 x.a.lo, .int .i64 x.n] 33) #[.bool y.a.v6, .int .u64 y.a.hi, .int .u64 y.a.lo, .int .i64 y.n] 33).on h.1
  exact ⟨h0.cell (j := 0) rfl, h0.cell (j := 1) rfl, h0.cell (j := 2) rfl, h0.cell (j := 3) rfl, h1.cell (j := 0) rfl, h1.cell (j := 1) rfl, h1.cell (j := 2) rfl, h1.cell (j := 3) rfl, h⟩
theorem SEG.on {x y : Endp} {w w1 w2 : World} (h : SEG x y w w1) (k : Gr w1 w2) : SEG x y w w2 := SEG.of (h.2.2.2.2.2.2.2.2.trans k)
theorem SEG.low {x y : Endp} {w w1 : World} (h : SEG x y w w1) : Gr w w1 := (Gr.two _ _ _).trans h.2.2.2.2.2.2.2.2
set_option maxHeartbeats 4000000 in
theorem compareG_any (x y : Endp) (w : World) (hx : x.ok) (hy : y.ok) :
    Calls Try.prog 40 #[.agg #[.bool x.a.v6, .int .u64 x.a.hi, .int .u64 x.a.lo, .int .i64 x.n], .agg #[.bool y.a.v6, .int .u64 y.a.hi, .int .u64 y.a.lo, .int .i64 y.n]] w fun e w' => e = .returned (.int .i64 (cmpE x y)) ∧ Gr w w' := by
  have K1 : Hid (∀ W, SEG x y w W → Calls Try.prog 59 #[.agg #[.bool x.a.v6, .int .u64 x.a.hi, .int .u64 x.a.lo], .agg #[.bool y.a.v6, .int .u64 y.a.hi, .int .u64 y.a.lo]] W fun e w' => e = .returned (.int .i64 (cmpA x.a y.a)) ∧ SEG x y w w') := Lib.hid fun W h => by
    have hc : Calls Try.prog 59 #[.agg #[.bool x.a.v6, .int .u64 x.a.hi, .int .u64 x.a.lo], .agg #[.bool y.a.v6, .int .u64 y.a.hi, .int .u64 y.a.lo]] W fun e w' => e = .returned (.int .i64 (cmpA x.a y.a)) ∧ Gr W w' := compareA_any x.a y.a W hx.1 hy.1
    exact hc.mono fun e w' ⟨he, hb⟩ => ⟨he, h.on hb⟩
  have K2 : Hid (∀ W, SEG x y w W → Calls Try.prog 39 #[.int .i64 x.n, .int .i64 y.n] W fun e w' => e = .returned (.int .i64 (cmpI x.n y.n)) ∧ SEG x y w w') := Lib.hid fun W h => by
    have hc : Calls Try.prog 39 #[.int .i64 x.n, .int .i64 y.n] W fun e w' => e = .returned (.int .i64 (cmpI x.n y.n)) ∧ Gr W w' := by
      have h := Try.cmp_Compare_int x.n y.n W
      rw [compareInt_is] at h
      exact h.mono fun e w' ⟨he, hw⟩ => ⟨he, by rw [hw]; exact Gr.refl _⟩
    exact hc.mono fun e w' ⟨he, hb⟩ => ⟨he, h.on hb⟩
  have K3 : Hid (∀ W : World, SEG x y w W → Calls Try.prog 38 #[.slice (some ⟨W.heap.size, 0, none⟩) 2 2] (W.alloc (.cells #[.int .i64 (cmpA x.a y.a), .int .i64 (cmpI x.n y.n)] 3)) fun e w' => e = .returned (.int .i64 (cmpE x y)) ∧ SEG x y w w') := Lib.hid fun W h => by
    have hc := or_any (cmpA x.a y.a) (cmpI x.n y.n) (cmpE x y) rfl W.heap.size (W.alloc (.cells #[.int .i64 (cmpA x.a y.a), .int .i64 (cmpI x.n y.n)] 3)) (by rw [cell_of_row _ _ _ _ _ _ (heap_alloc_new W _)]; rfl) (by rw [cell_of_row _ _ _ _ _ _ (heap_alloc_new W _)]; rfl)
    exact hc.mono fun e w' ⟨he, hw⟩ => ⟨he, by rw [hw]; exact SEG.of (h.2.2.2.2.2.2.2.2.alloc _)⟩
  have JD : Hid (∀ W, SEG x y w W → SEG x y w W.drew) := Lib.hid fun W h => SEG.of (h.2.2.2.2.2.2.2.2.drew)
  have JA : Hid (∀ W o, SEG x y w W → SEG x y w (W.alloc o)) := Lib.hid fun W o h => SEG.of (h.2.2.2.2.2.2.2.2.alloc o)
  have hk0 : SEG x y w ((w.alloc (.cells #[.bool x.a.v6, .int .u64 x.a.hi, .int .u64 x.a.lo, .int .i64 x.n] 33)).alloc (.cells #[.bool y.a.v6, .int .u64 y.a.hi, .int .u64 y.a.lo, .int .i64 y.n] 33)) := SEG.of (Gr.refl _)
  obtain ⟨c0, c1, c2, c3, c4, c5, c6, c7, hs⟩ := id hk0
  go_enter Try.func40, Try.ntmps40
  go_wp2_with fail
  go_region_held3 (fun w' => w'.cell? ⟨w.heap.size, 0, none⟩ = some (.bool x.a.v6) ∧ w'.cell? ⟨w.heap.size, 1, none⟩ = some (.int .u64 x.a.hi) ∧ w'.cell? ⟨w.heap.size, 2, none⟩ = some (.int .u64 x.a.lo) ∧ w'.cell? ⟨w.heap.size, 3, none⟩ = some (.int .i64 x.n) ∧ w'.cell? ⟨w.heap.size + 1, 0, none⟩ = some (.bool y.a.v6) ∧ w'.cell? ⟨w.heap.size + 1, 1, none⟩ = some (.int .u64 y.a.hi) ∧ w'.cell? ⟨w.heap.size + 1, 2, none⟩ = some (.int .u64 y.a.lo) ∧ w'.cell? ⟨w.heap.size + 1, 3, none⟩ = some (.int .i64 y.n) ∧ Gr (((w.alloc (.cells #[.bool x.a.v6, .int .u64 x.a.hi, .int .u64 x.a.lo, .int .i64 x.n] 33)).alloc (.cells #[.bool y.a.v6, .int .u64 y.a.hi, .int .u64 y.a.lo, .int .i64 y.n] 33))) w')
    (first | assumption | exact JD.out _ ‹_› | exact JA.out _ _ ‹_›)
    (first
      | (go_at_call 59; (with_reducible refine (K1.out _ ‹_›).mono ?_); rintro e w9 ⟨rfl, hkw⟩)
      | (go_at_call 39; (with_reducible refine (K2.out _ ‹_›).mono ?_); rintro e w9 ⟨rfl, hkw⟩)
      | (go_at_call 38; refine (K3.out _ ‹_›).mono ?_; rintro e w9 ⟨rfl, hkw⟩))
  all_goals (go_wp2; go_ret; exact ⟨rfl, SEG.low (‹SEG x y w _›)⟩)
abbrev SIG (x y : It) (w w' : World) : Prop := w'.cell? ⟨w.heap.size, 0, none⟩ = some (.int .i64 x.k) ∧ w'.cell? ⟨w.heap.size, 1, none⟩ = some (.bool x.e.a.v6) ∧ w'.cell? ⟨w.heap.size, 2, none⟩ = some (.int .u64 x.e.a.hi) ∧ w'.cell? ⟨w.heap.size, 3, none⟩ = some (.int .u64 x.e.a.lo) ∧ w'.cell? ⟨w.heap.size, 4, none⟩ = some (.int .i64 x.e.n) ∧ w'.cell? ⟨w.heap.size + 1, 0, none⟩ = some (.int .i64 y.k) ∧ w'.cell? ⟨w.heap.size + 1, 1, none⟩ = some (.bool y.e.a.v6) ∧ w'.cell? ⟨w.heap.size + 1, 2, none⟩ = some (.int .u64 y.e.a.hi) ∧ w'.cell? ⟨w.heap.size + 1, 3, none⟩ = some (.int .u64 y.e.a.lo) ∧ w'.cell? ⟨w.heap.size + 1, 4, none⟩ = some (.int .i64 y.e.n) ∧ Gr (((w.alloc (.cells #[.int .i64 x.k, .bool x.e.a.v6, .int .u64 x.e.a.hi, .int .u64 x.e.a.lo, .int .i64 x.e.n] 57)).alloc (.cells #[.int .i64 y.k, .bool y.e.a.v6, .int .u64 y.e.a.hi, .int .u64 y.e.a.lo, .int .i64 y.e.n] 57))) w'
theorem SIG.of {x y : It} {w w' : World} (h : Gr ((w.alloc (.cells #[.int .i64 x.k, .bool x.e.a.v6, .int .u64 x.e.a.hi, .int .u64 x.e.a.lo, .int .i64 x.e.n] 57)).alloc (.cells #[.int .i64 y.k, .bool y.e.a.v6, .int .u64 y.e.a.hi, .int .u64 y.e.a.lo, .int .i64 y.e.n] 57)) w') : SIG x y w w' := by
  have h0 : Blk w' w.heap.size 57 [.int .i64 x.k, .bool x.e.a.v6, .int .u64 x.e.a.hi, .int .u64 x.e.a.lo, .int .i64 x.e.n] := ((Blk.new w #[.int .i64 x.k, .bool x.e.a.v6, .int .u64 x.e.a.hi, .int .u64 x.e.a.lo, .int .i64 x.e.n] 57).alloc (.cells #[.int .i64 y.k, .bool y.e.a.v6, .int .u64 y.e.a.hi, .int .u64 y.e.a.lo, .int .i64 y.e.n] 57)).on h.1
  have h1 : Blk w' (w.heap.size + 1) 57 [.int .i64 y.k, .bool y.e.a.v6, .int .u64 y.e.a.hi, .int .u64 y.e.a.lo, .int .i64 y.e.n] := (Blk.two w (.cells #[.int .i64 x.k, .bool x.e.a.v6, .int .u64 x.e.a.hi, .int .u64 x.e.a.lo, .int .i64 x.e.n] 57) #[.int .i64 y.k, .bool y.e.a.v6, .int .u64 y.e.a.hi, .int .u64 y.e.a.lo, .int .i64 y.e.n] 57).on h.1
  exact ⟨h0.cell (j := 0) rfl, h0.cell (j := 1) rfl, h0.cell (j := 2) rfl, h0.cell (j := 3) rfl, h0.cell (j := 4) rfl, h1.cell (j := 0) rfl, h1.cell (j := 1) rfl, h1.cell (j := 2) rfl, h1.cell (j := 3) rfl, h1.cell (j := 4) rfl, h⟩
theorem SIG.on {x y : It} {w w1 w2 : World} (h : SIG x y w w1) (k : Gr w1 w2) : SIG x y w w2 := SIG.of (h.2.2.2.2.2.2.2.2.2.2.trans k)
theorem SIG.low {x y : It} {w w1 : World} (h : SIG x y w w1) : Gr w w1 := (Gr.two _ _ _).trans h.2.2.2.2.2.2.2.2.2.2
set_option maxHeartbeats 4000000 in
theorem compareH_any (x y : It) (w : World) (hx : x.ok) (hy : y.ok) :
    Calls Try.prog 28 #[.agg #[.int .i64 x.k, .bool x.e.a.v6, .int .u64 x.e.a.hi, .int .u64 x.e.a.lo, .int .i64 x.e.n], .agg #[.int .i64 y.k, .bool y.e.a.v6, .int .u64 y.e.a.hi, .int .u64 y.e.a.lo, .int .i64 y.e.n]] w fun e w' => e = .returned (.int .i64 (cmpH x y)) ∧ Gr w w' := by
  have K1 : Hid (∀ W, SIG x y w W → Calls Try.prog 39 #[.int .i64 x.k, .int .i64 y.k] W fun e w' => e = .returned (.int .i64 (cmpI x.k y.k)) ∧ SIG x y w w') := Lib.hid fun W h => by
    have hc : Calls Try.prog 39 #[.int .i64 x.k, .int .i64 y.k] W fun e w' => e = .returned (.int .i64 (cmpI x.k y.k)) ∧ Gr W w' := by
      have h := Try.cmp_Compare_int x.k y.k W
      rw [compareInt_is] at h
      exact h.mono fun e w' ⟨he, hw⟩ => ⟨he, by rw [hw]; exact Gr.refl _⟩
    exact hc.mono fun e w' ⟨he, hb⟩ => ⟨he, h.on hb⟩
  have K2 : Hid (∀ W, SIG x y w W → Calls Try.prog 40 #[.agg #[.bool x.e.a.v6, .int .u64 x.e.a.hi, .int .u64 x.e.a.lo, .int .i64 x.e.n], .agg #[.bool y.e.a.v6, .int .u64 y.e.a.hi, .int .u64 y.e.a.lo, .int .i64 y.e.n]] W fun e w' => e = .returned (.int .i64 (cmpE x.e y.e)) ∧ SIG x y w w') := Lib.hid fun W h => by
    have hc : Calls Try.prog 40 #[.agg #[.bool x.e.a.v6, .int .u64 x.e.a.hi, .int .u64 x.e.a.lo, .int .i64 x.e.n], .agg #[.bool y.e.a.v6, .int .u64 y.e.a.hi, .int .u64 y.e.a.lo, .int .i64 y.e.n]] W fun e w' => e = .returned (.int .i64 (cmpE x.e y.e)) ∧ Gr W w' := compareG_any x.e y.e W hx.2 hy.2
    exact hc.mono fun e w' ⟨he, hb⟩ => ⟨he, h.on hb⟩
  have K3 : Hid (∀ W : World, SIG x y w W → Calls Try.prog 38 #[.slice (some ⟨W.heap.size, 0, none⟩) 2 2] (W.alloc (.cells #[.int .i64 (cmpI x.k y.k), .int .i64 (cmpE x.e y.e)] 3)) fun e w' => e = .returned (.int .i64 (cmpH x y)) ∧ SIG x y w w') := Lib.hid fun W h => by
    have hc := or_any (cmpI x.k y.k) (cmpE x.e y.e) (cmpH x y) rfl W.heap.size (W.alloc (.cells #[.int .i64 (cmpI x.k y.k), .int .i64 (cmpE x.e y.e)] 3)) (by rw [cell_of_row _ _ _ _ _ _ (heap_alloc_new W _)]; rfl) (by rw [cell_of_row _ _ _ _ _ _ (heap_alloc_new W _)]; rfl)
    exact hc.mono fun e w' ⟨he, hw⟩ => ⟨he, by rw [hw]; exact SIG.of (h.2.2.2.2.2.2.2.2.2.2.alloc _)⟩
  have JD : Hid (∀ W, SIG x y w W → SIG x y w W.drew) := Lib.hid fun W h => SIG.of (h.2.2.2.2.2.2.2.2.2.2.drew)
  have JA : Hid (∀ W o, SIG x y w W → SIG x y w (W.alloc o)) := Lib.hid fun W o h => SIG.of (h.2.2.2.2.2.2.2.2.2.2.alloc o)
  have hk0 : SIG x y w ((w.alloc (.cells #[.int .i64 x.k, .bool x.e.a.v6, .int .u64 x.e.a.hi, .int .u64 x.e.a.lo, .int .i64 x.e.n] 57)).alloc (.cells #[.int .i64 y.k, .bool y.e.a.v6, .int .u64 y.e.a.hi, .int .u64 y.e.a.lo, .int .i64 y.e.n] 57)) := SIG.of (Gr.refl _)
  obtain ⟨c0, c1, c2, c3, c4, c5, c6, c7, c8, c9, hs⟩ := id hk0
  go_enter Try.func28, Try.ntmps28
  go_wp2_with fail
  go_region_held3 (fun w' => w'.cell? ⟨w.heap.size, 0, none⟩ = some (.int .i64 x.k) ∧ w'.cell? ⟨w.heap.size, 1, none⟩ = some (.bool x.e.a.v6) ∧ w'.cell? ⟨w.heap.size, 2, none⟩ = some (.int .u64 x.e.a.hi) ∧ w'.cell? ⟨w.heap.size, 3, none⟩ = some (.int .u64 x.e.a.lo) ∧ w'.cell? ⟨w.heap.size, 4, none⟩ = some (.int .i64 x.e.n) ∧ w'.cell? ⟨w.heap.size + 1, 0, none⟩ = some (.int .i64 y.k) ∧ w'.cell? ⟨w.heap.size + 1, 1, none⟩ = some (.bool y.e.a.v6) ∧ w'.cell? ⟨w.heap.size + 1, 2, none⟩ = some (.int .u64 y.e.a.hi) ∧ w'.cell? ⟨w.heap.size + 1, 3, none⟩ = some (.int .u64 y.e.a.lo) ∧ w'.cell? ⟨w.heap.size + 1, 4, none⟩ = some (.int .i64 y.e.n) ∧ Gr (((w.alloc (.cells #[.int .i64 x.k, .bool x.e.a.v6, .int .u64 x.e.a.hi, .int .u64 x.e.a.lo, .int .i64 x.e.n] 57)).alloc (.cells #[.int .i64 y.k, .bool y.e.a.v6, .int .u64 y.e.a.hi, .int .u64 y.e.a.lo, .int .i64 y.e.n] 57))) w')
    (first | assumption | exact JD.out _ ‹_› | exact JA.out _ _ ‹_›)
    (first
      | (go_at_call 39; (with_reducible refine (K1.out _ ‹_›).mono ?_); rintro e w9 ⟨rfl, hkw⟩)
      | (go_at_call 40; (with_reducible refine (K2.out _ ‹_›).mono ?_); rintro e w9 ⟨rfl, hkw⟩)
      | (go_at_call 38; refine (K3.out _ ‹_›).mono ?_; rintro e w9 ⟨rfl, hkw⟩))
  all_goals (go_wp2; go_ret; exact ⟨rfl, SIG.low (‹SIG x y w _›)⟩)
end Go.Proofs.Ytgnjbbohphoojaa.Hp
/- A list of items in a block; where the first of three stands; an item sinks. -/
namespace Go.Proofs.Ytgnjbbohphoojaa.Hp
set_option maxRecDepth 100000
open Go.ChangeShapes Go.WideShapes Go.ChangeAt Go.RowKit
open Dec Words V4 V6 Ad Ci En Go.Deep
set_option linter.unusedVariables false
theorem own_blk {B : Nat} {w : World} {v : Value} {l : List It} (h : OwnI B w v l) (h0 : 0 < l.length) : ∃ g cap Z, v = .slice (some ⟨g, 0, none⟩) l.length cap ∧ B ≤ g ∧ l.length ≤ cap ∧ Blk w g 57 (flat encI l ++ Z) := by
  obtain ⟨h1, h2⟩ := h
  rcases h2 with ⟨_, h3⟩ | ⟨g, cap, cur, rfl, hB, hg, hn, _, _, ht⟩
  · omega
  · refine ⟨g, cap, cur.toList.drop (l.length * 5), rfl, hB, hn, ?_⟩
    unfold Blk
    rw [hg, ← ht, List.take_append_drop]
theorem blk_cells {w : World} {g : Nat} {t : TypeId} {Z : List Value} {l : List It} (h : Blk w g t (flat encI l ++ Z)) {i : Nat} (hi : i < l.length) {j : Nat} {u : Value} (hu : (encI l[i])[j]? = some u) : w.cell? ⟨g, i * 5 + j, none⟩ = some u := by
  have hj : j < 5 := by have := (List.getElem?_eq_some_iff.1 hu).1; rwa [encI_len] at this
  refine h.cell ?_
  rw [List.getElem?_append_left (by rw [flat_len encI_len]; omega), flat_at encI_len l i j hi hj, hu]
theorem splice_lead (X T vs : List Value) (o : Nat) (h : o + vs.length ≤ X.length) : splice (X ++ T) o vs = splice X o vs ++ T := by
  unfold splice
  rw [List.take_append_of_le_length (by omega), List.drop_append_of_le_length (by omega)]
  simp
theorem splice_one {α : Type} (D : List α) (i : Nat) (x : α) (h : i < D.length) : splice D i [x] = D.set i x := by
  unfold splice
  rw [List.set_eq_take_append_cons_drop, if_pos h]
  simp
theorem set_flat (D : List It) (tail : List Value) {i : Nat} (x : It) (hi : i < D.length) : splice (flat encI D ++ tail) (i * 5) (encI x) = flat encI (D.set i x) ++ tail := by
  have hl : (flat encI D).length = D.length * 5 := flat_len encI_len D
  rw [splice_lead _ _ _ _ (by rw [hl, encI_len]; omega), ← flat_one encI x, flat_splice encI_len, splice_one _ _ _ hi]
/-- A list in a block: n of them, then what is behind. -/
structure Rw (g n : Nat) (tail : List Value) (f : Nat → It) (w : World) : Prop where
  dat : Blk w g 57 (flat encI (ls n f) ++ tail)
  good : ∀ i, i < n → (f i).ok
section
variable {g n : Nat} {tail : List Value} {f : Nat → It} {w : World}
theorem Rw.at (h : Rw g n tail f w) {i : Nat} (hi : i < n) {j : Nat} {u : Value} (hu : (encI (f i))[j]? = some u) : w.cell? ⟨g, i * 5 + j, none⟩ = some u := by
  have hj : j < 5 := by have := (List.getElem?_eq_some_iff.1 hu).1; rwa [encI_len] at this
  refine h.dat.cell ?_
  have hl : i < (ls n f).length := by rw [ls_length]; exact hi
  rw [List.getElem?_append_left (by rw [flat_len encI_len, ls_length]; omega), flat_at encI_len _ i j hl hj, ls_get, hu]
theorem Rw.free (h : Rw g n tail f w) (j : Nat) : w.frozen? ⟨g, j, none⟩ = false := h.dat.free j
theorem Rw.on {w' : World} (h : Rw g n tail f w) (k : Below w.heap.size w w') : Rw g n tail f w' := ⟨h.dat.on k, h.good⟩
theorem Rw.drew (h : Rw g n tail f w) : Rw g n tail f w.drew := ⟨h.dat.drew, h.good⟩
theorem Rw.lt (h : Rw g n tail f w) : g < w.heap.size := h.dat.lt
theorem Rw.items (h : Rw g n tail f w) {c : Nat} (hc : n ≤ c) : Items w (.slice (some ⟨g, 0, none⟩) n c) (ls n f) :=
  Blk.reads encI_len h.dat (by rw [List.take_left' (by rw [flat_len encI_len, ls_length])]) (ls_length n f) hc
theorem put_blk {D : List It} (h : Blk w g 57 (flat encI D ++ tail)) {i : Nat} (hi : i < D.length) (x : It) :
    Blk (((((w.setCell ⟨g, i * 5, none⟩ (.int .i64 x.k)).setCell ⟨g, i * 5 + 1, none⟩ (.bool x.e.a.v6)).setCell ⟨g, i * 5 + 2, none⟩ (.int .u64 x.e.a.hi)).setCell ⟨g, i * 5 + 3, none⟩ (.int .u64 x.e.a.lo)).setCell ⟨g, i * 5 + 4, none⟩ (.int .i64 x.e.n)) g 57 (flat encI (D.set i x) ++ tail) ∧ Bt g w (((((w.setCell ⟨g, i * 5, none⟩ (.int .i64 x.k)).setCell ⟨g, i * 5 + 1, none⟩ (.bool x.e.a.v6)).setCell ⟨g, i * 5 + 2, none⟩ (.int .u64 x.e.a.hi)).setCell ⟨g, i * 5 + 3, none⟩ (.int .u64 x.e.a.lo)).setCell ⟨g, i * 5 + 4, none⟩ (.int .i64 x.e.n)) := by
  have k := setCells_blk g 57 (encI x) (i * 5) w _ h (by rw [encI_len, List.length_append, flat_len encI_len]; omega)
  rw [set_flat D tail x hi] at k
  exact k
/-- Two places changed, first i, then j. -/
theorem Rw.swap (h : Rw g n tail f w) {i j : Nat} (hi : i < n) (hj : j < n) : Rw g n tail (sw i j f) ((((((((((w.setCell ⟨g, i * 5, none⟩ (.int .i64 (f j).k)).setCell ⟨g, i * 5 + 1, none⟩ (.bool (f j).e.a.v6)).setCell ⟨g, i * 5 + 2, none⟩ (.int .u64 (f j).e.a.hi)).setCell ⟨g, i * 5 + 3, none⟩ (.int .u64 (f j).e.a.lo)).setCell ⟨g, i * 5 + 4, none⟩ (.int .i64 (f j).e.n)).setCell ⟨g, j * 5, none⟩ (.int .i64 (f i).k)).setCell ⟨g, j * 5 + 1, none⟩ (.bool (f i).e.a.v6)).setCell ⟨g, j * 5 + 2, none⟩ (.int .u64 (f i).e.a.hi)).setCell ⟨g, j * 5 + 3, none⟩ (.int .u64 (f i).e.a.lo)).setCell ⟨g, j * 5 + 4, none⟩ (.int .i64 (f i).e.n)) ∧ Bt g w ((((((((((w.setCell ⟨g, i * 5, none⟩ (.int .i64 (f j).k)).setCell ⟨g, i * 5 + 1, none⟩ (.bool (f j).e.a.v6)).setCell ⟨g, i * 5 + 2, none⟩ (.int .u64 (f j).e.a.hi)).setCell ⟨g, i * 5 + 3, none⟩ (.int .u64 (f j).e.a.lo)).setCell ⟨g, i * 5 + 4, none⟩ (.int .i64 (f j).e.n)).setCell ⟨g, j * 5, none⟩ (.int .i64 (f i).k)).setCell ⟨g, j * 5 + 1, none⟩ (.bool (f i).e.a.v6)).setCell ⟨g, j * 5 + 2, none⟩ (.int .u64 (f i).e.a.hi)).setCell ⟨g, j * 5 + 3, none⟩ (.int .u64 (f i).e.a.lo)).setCell ⟨g, j * 5 + 4, none⟩ (.int .i64 (f i).e.n)) := by
  obtain ⟨b1, t1⟩ := put_blk h.dat (i := i) (by rw [ls_length]; exact hi) (f j)
  obtain ⟨b2, t2⟩ := put_blk b1 (i := j) (by rw [List.length_set, ls_length]; exact hj) (f i)
  rw [ls_sw f hi hj] at b2
  exact ⟨⟨b2, sw_mem hi hj h.good⟩, t1.trans t2⟩
/-- One place written. -/
theorem Rw.put (h : Rw g n tail f w) {i : Nat} (hi : i < n) {x : It} (hx : x.ok) : Rw g n tail (fun p => if p = i then x else f p) (((((w.setCell ⟨g, i * 5, none⟩ (.int .i64 x.k)).setCell ⟨g, i * 5 + 1, none⟩ (.bool x.e.a.v6)).setCell ⟨g, i * 5 + 2, none⟩ (.int .u64 x.e.a.hi)).setCell ⟨g, i * 5 + 3, none⟩ (.int .u64 x.e.a.lo)).setCell ⟨g, i * 5 + 4, none⟩ (.int .i64 x.e.n)) ∧ Bt g w (((((w.setCell ⟨g, i * 5, none⟩ (.int .i64 x.k)).setCell ⟨g, i * 5 + 1, none⟩ (.bool x.e.a.v6)).setCell ⟨g, i * 5 + 2, none⟩ (.int .u64 x.e.a.hi)).setCell ⟨g, i * 5 + 3, none⟩ (.int .u64 x.e.a.lo)).setCell ⟨g, i * 5 + 4, none⟩ (.int .i64 x.e.n)) := by
  obtain ⟨b1, t1⟩ := put_blk h.dat (i := i) (by rw [ls_length]; exact hi) x
  rw [ls_set f x hi] at b1
  refine ⟨⟨b1, fun p hp => ?_⟩, t1⟩
  by_cases e : p = i
  · rw [if_pos e]; exact hx
  · rw [if_neg e]; exact h.good p hp
/-- A list that a call made, as a block. -/
theorem own_rw {B : Nat} {w : World} {v : Value} {l : List It} (h : OwnI B w v l) (h0 : 0 < l.length) (hok : ∀ x ∈ l, x.ok) : ∃ g cap Z, v = .slice (some ⟨g, 0, none⟩) l.length cap ∧ B ≤ g ∧ l.length ≤ cap ∧ Rw g l.length Z (fn l) w := by
  obtain ⟨g, cap, Z, h1, h2, h3, h4⟩ := own_blk h h0
  exact ⟨g, cap, Z, h1, h2, h3, by rw [show ls l.length (fn l) = l from ls_of l]; exact h4, fun i hi => hok _ (by rw [show fn l i = l[i] from getElem!_pos l i hi]; exact List.getElem_mem _)⟩
def bst (n : Nat) (f : Nat → It) (i : Nat) : Nat → Nat
  | 0 => i
  | k + 1 => if 2 * i + 1 + k < n ∧ ltH (f (2 * i + 1 + k)) (f (bst n f i k)) = true then 2 * i + 1 + k else bst n f i k
theorem bst_two (n : Nat) (f : Nat → It) (i : Nat) : bst n f i 2 = firstF n f i := rfl
theorem bst_stop {n : Nat} {f : Nat → It} {i k : Nat} (h : n ≤ 2 * i + 1 + k) : bst n f i (k + 1) = bst n f i k := by rw [bst, if_neg (fun hh => by omega)]
theorem bst_end {n : Nat} {f : Nat → It} {i : Nat} : ∀ k, k ≤ 2 → n ≤ 2 * i + 1 + k → bst n f i k = firstF n f i := by
  intro k hk h
  rw [← bst_two]
  rcases (by omega : k = 0 ∨ k = 1 ∨ k = 2) with rfl | rfl | rfl
  · exact ((bst_stop (k := 1) (by omega)).trans (bst_stop (k := 0) (by omega))).symm
  · exact (bst_stop (k := 1) (by omega)).symm
  · rfl
theorem bst_lt {n : Nat} {f : Nat → It} {i : Nat} (hi : i < n) : ∀ k, bst n f i k < n
  | 0 => hi
  | k + 1 => by
    rw [bst]
    by_cases h : 2 * i + 1 + k < n ∧ ltH (f (2 * i + 1 + k)) (f (bst n f i k)) = true
    · rw [if_pos h]; exact h.1
    · rw [if_neg h]; exact bst_lt hi k
end
end Go.Proofs.Ytgnjbbohphoojaa.Hp
/- Package heap: rise, Right, Make. -/
namespace Go.Proofs.Ytgnjbbohphoojaa.Hp
set_option maxRecDepth 100000
open Go.ChangeShapes Go.WideShapes Go.ChangeAt Go.RowKit
open Dec Words V4 V6 Ad Ci En Go.Deep
set_option linter.unusedVariables false
section
variable {g n : Nat} {tail : List Value} {f : Nat → It} {w : World}
end
theorem own_rw2 {B m : Nat} {w : World} {v : Value} {l : List It} {f : Nat → It} (h : OwnI B w v l) (h0 : 0 < m) (hl : l = ls m f) (hok : ∀ i, i < m → (f i).ok) : ∃ g cap Z, v = .slice (some ⟨g, 0, none⟩) m cap ∧ B ≤ g ∧ m ≤ cap ∧ Rw g m Z f w := by
  have hm : l.length = m := by rw [hl, ls_length]
  obtain ⟨g, cap, Z, h1, h2, h3, h4⟩ := own_blk h (by omega)
  rw [hm] at h1 h3
  exact ⟨g, cap, Z, h1, h2, h3, by rw [← hl]; exact h4, hok⟩
end Go.Proofs.Ytgnjbbohphoojaa.Hp
/- Package heap: Push, Pop. -/
namespace Go.Proofs.Ytgnjbbohphoojaa.Hp
set_option maxRecDepth 100000
open Go.ChangeShapes Go.WideShapes Go.ChangeAt Go.RowKit
open Dec Words V4 V6 Ad Ci En Go.Deep
set_option linter.unusedVariables false
theorem flat2 (l m : List It) : [l, m].flatten = l ++ m := by simp
section
variable {g n : Nat} {tail : List Value} {f : Nat → It} {w : World}
theorem Rw.put0 (h : Rw g n tail f w) (hi : 0 < n) {x : It} (hx : x.ok) : Rw g n tail (fun p => if p = 0 then x else f p) (((((w.setCell ⟨g, 0, none⟩ (.int .i64 x.k)).setCell ⟨g, 1, none⟩ (.bool x.e.a.v6)).setCell ⟨g, 2, none⟩ (.int .u64 x.e.a.hi)).setCell ⟨g, 3, none⟩ (.int .u64 x.e.a.lo)).setCell ⟨g, 4, none⟩ (.int .i64 x.e.n)) ∧ Bt g w (((((w.setCell ⟨g, 0, none⟩ (.int .i64 x.k)).setCell ⟨g, 1, none⟩ (.bool x.e.a.v6)).setCell ⟨g, 2, none⟩ (.int .u64 x.e.a.hi)).setCell ⟨g, 3, none⟩ (.int .u64 x.e.a.lo)).setCell ⟨g, 4, none⟩ (.int .i64 x.e.n)) := by
  have k := Rw.put h hi hx
  simpa only [Nat.zero_mul, Nat.zero_add] using k
end
theorem box_put {w : World} {g : Nat} {y : It} (x : It) (h : Blk w g 57 (encI y)) : Blk (((((w.setCell ⟨g, 0, none⟩ (.int .i64 x.k)).setCell ⟨g, 1, none⟩ (.bool x.e.a.v6)).setCell ⟨g, 2, none⟩ (.int .u64 x.e.a.hi)).setCell ⟨g, 3, none⟩ (.int .u64 x.e.a.lo)).setCell ⟨g, 4, none⟩ (.int .i64 x.e.n)) g 57 (encI x) ∧ Bt g w (((((w.setCell ⟨g, 0, none⟩ (.int .i64 x.k)).setCell ⟨g, 1, none⟩ (.bool x.e.a.v6)).setCell ⟨g, 2, none⟩ (.int .u64 x.e.a.hi)).setCell ⟨g, 3, none⟩ (.int .u64 x.e.a.lo)).setCell ⟨g, 4, none⟩ (.int .i64 x.e.n)) := by
  have k := setCells_blk g 57 (encI x) 0 w _ h (by rw [encI_len, encI_len]; omega)
  rw [show splice (encI y) 0 (encI x) = encI x from by unfold splice; simp [encI]] at k
  exact k
theorem fn_take {l : List It} {i m : Nat} (h : i < m) (hm : m ≤ l.length) : fn (l.take m) i = fn l i := by
  unfold fn
  rw [getElem!_pos (l.take m) i (by rw [List.length_take]; omega), getElem!_pos l i (by omega), List.getElem_take]
theorem ls_take {l : List It} {m : Nat} (hm : m ≤ l.length) : l.take m = ls m (fn l) := by
  have e := ls_of (l.take m)
  rw [List.length_take, Nat.min_eq_left hm] at e
  rw [← e]
  exact ls_eq fun i hi => fn_take hi hm
theorem items_below {w w' : World} {g : Nat} {t : TypeId} {vs : List Value} {v : Value} {l : List It} (h : Items w v l) (k : Bt g w w') (hg : Blk w g t vs) (hv : v.ownBlock ≠ some g) : Items w' v l := by
  obtain ⟨A, c, rfl, h1, h2, h3⟩ := h
  refine ⟨A, c, rfl, h1, h2, fun h0 => ?_⟩
  obtain ⟨b, o, rfl, hb, hc⟩ := h3 h0
  have hne : b ≠ g := fun e => hv (by rw [e]; rfl)
  refine ⟨b, o, rfl, Nat.lt_of_lt_of_le hb k.size, fun i hi j u hu => ?_⟩
  have := hc i hi j u hu
  rw [← this]
  unfold World.cell?
  rw [k.block b hne hb]
theorem own_other {B : Nat} {w w' : World} {g : Nat} {v : Value} {l : List It} (h : OwnI B w v l) (k : Bt g w w') (hg : g < B) : OwnI B w' v l := by
  obtain ⟨h1, h2⟩ := h
  refine ⟨h1, ?_⟩
  rcases h2 with h2 | ⟨b, cap, cur, e, hB, hb, h3⟩
  · exact .inl h2
  · exact .inr ⟨b, cap, cur, e, hB, (k.block b (by omega) (lt_of_block hb)).trans hb, h3⟩
theorem rw_other {g b n : Nat} {Z : List Value} {f : Nat → It} {w w' : World} (h : Rw g n Z f w) (k : Bt b w w') (hg : g ≠ b) : Rw g n Z f w' := ⟨h.dat.but k hg, h.good⟩
end Go.Proofs.Ytgnjbbohphoojaa.Hp
