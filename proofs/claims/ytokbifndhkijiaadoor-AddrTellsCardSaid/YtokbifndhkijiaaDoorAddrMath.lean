/- Plain words on addresses of either kind: no program. -/
import Derived.Test.YtokbifndhkijiaaDoorIpv6Text
namespace Go.Proofs.YtokbifndhkijiaaDoor.Ad
open Dec Words V4 V6
/-- An address: its kind and its bits. -/
structure Adr where
  v6 : Bool
  hi : Nat
  lo : Nat
def Adr.ok (a : Adr) : Prop := a.hi < 18446744073709551616 ∧ a.lo < 18446744073709551616
theorem adr_eq {a b : Adr} (h1 : a.v6 = b.v6) (h2 : a.hi = b.hi) (h3 : a.lo = b.lo) : a = b := by
  cases a; cases b; simp_all
def v4A (n : Nat) : Adr := ⟨false, 0, n⟩
/-- Does it stand for an address of four bytes? -/
def stands (hi lo : Nat) : Bool := decide (hi = 0) && decide (lo / 4294967296 = 65535)
def v6A (hi lo : Nat) : Adr := if stands hi lo then ⟨false, 0, lo % 4294967296⟩ else ⟨true, hi, lo⟩
def rightA (a : Adr) : Bool := if a.v6 then !stands a.hi a.lo else decide (a.hi = 0) && decide (a.lo < 4294967296)
def okA (l : List UInt8) : Bool := ok4 l || ok6 l
def parseA (l : List UInt8) : Adr := if ok4 l then v4A (num4 l) else if ok6 l then v6A (hi6 l) (lo6 l) else ⟨false, 0, 0⟩
def textA (a : Adr) : List UInt8 := if rightA a then (if a.v6 then text6 a.hi a.lo else text4 a.lo) else []
def bitsA (a : Adr) : Nat := if a.v6 then 128 else 32
/-- Bit i, the highest first. -/
def bitN (a : Adr) (i : Nat) : Nat := if a.v6 then (if i < 64 then a.hi / 2 ^ (63 - i) % 2 else a.lo / 2 ^ (127 - i) % 2) else a.lo / 2 ^ (31 - i) % 2
def bitA (a : Adr) (i : Int) : Int := if 0 ≤ i ∧ i < (bitsA a : Int) then (bitN a i.toNat : Int) else 0
def lessA (a b : Adr) : Bool := if a.v6 = b.v6 then (if a.hi = b.hi then decide (a.lo < b.lo) else decide (a.hi < b.hi)) else b.v6
def sameA (a b : Adr) : Bool := a.v6 == b.v6 && (a.hi == b.hi && a.lo == b.lo)
def cmpA (a b : Adr) : Int := if sameA a b then 0 else if lessA a b then -1 else 1
theorem sameA_iff (a b : Adr) : sameA a b = true ↔ a = b := by
  unfold sameA
  cases a; cases b; simp
/-! What is read is right, and is read again. -/
theorem stands_iff (hi lo : Nat) : stands hi lo = true ↔ hi = 0 ∧ lo / 4294967296 = 65535 := by unfold stands; simp
theorem v4A_ok {n : Nat} (h : n < 4294967296) : (v4A n).ok := ⟨Nat.zero_lt_succ _, Nat.lt_trans h (by decide)⟩
theorem v6A_ok {hi lo : Nat} (h1 : hi < 18446744073709551616) (h2 : lo < 18446744073709551616) : (v6A hi lo).ok := by
  unfold v6A Adr.ok
  split
  · exact ⟨by simp, by simp only []; omega⟩
  · exact ⟨h1, h2⟩
theorem v4A_right {n : Nat} (h : n < 4294967296) : rightA (v4A n) = true := by unfold rightA v4A; simp [h]
theorem v6A_right (hi lo : Nat) : rightA (v6A hi lo) = true := by
  unfold v6A
  cases e : stands hi lo
  · simp [rightA, e]
  · simp [rightA]; omega
theorem v6A_same {hi lo : Nat} (h : stands hi lo = false) : v6A hi lo = ⟨true, hi, lo⟩ := by unfold v6A; rw [h]; rfl
theorem parseA_ok (l : List UInt8) : (parseA l).ok := by
  unfold parseA
  split
  · exact v4A_ok (num4_lt l)
  · split
    · exact v6A_ok (hi6_lt l) (lo6_lt l)
    · exact ⟨by decide, by decide⟩
theorem parseA_right {l : List UInt8} (h : okA l = true) : rightA (parseA l) = true := by
  unfold parseA
  unfold okA at h
  split
  · exact v4A_right (num4_lt l)
  · rename_i h4
    have h6 : ok6 l = true := by
      rw [Bool.or_eq_true] at h
      rcases h with h | h
      · exact absurd h h4
      · exact h
    rw [if_pos h6]; exact v6A_right _ _
theorem parseA_no {l : List UInt8} (h : okA l = false) : parseA l = ⟨false, 0, 0⟩ := by
  unfold okA at h
  rw [Bool.or_eq_false_iff] at h
  unfold parseA
  rw [h.1, h.2]; rfl
theorem ok4_no58 {l : List UInt8} (h : ok4 l = true) : (58 : UInt8) ∉ l := by
  have e := text4_num4 h
  generalize num4 l = n at e
  subst e
  have hd : ∀ n : Nat, (58 : UInt8) ∉ text (n : Int) := fun n h => absurd (text_digit h) (by decide)
  have h0 := hd (n / 16777216 % 256)
  have h1 := hd (n / 65536 % 256)
  have h2 := hd (n / 256 % 256)
  have h3 := hd (n % 256)
  unfold text4 parts4
  generalize text ((n / 16777216 % 256 : Nat) : Int) = a at *
  generalize text ((n / 65536 % 256 : Nat) : Int) = b at *
  generalize text ((n / 256 % 256 : Nat) : Int) = c at *
  generalize text ((n % 256 : Nat) : Int) = d at *
  simp [glue, h0, h1, h2, h3]
theorem ok4_not_ok6 {l : List UInt8} (h : ok4 l = true) : ok6 l = false := by
  have h58 := ok4_no58 h
  have hg : gap l = none := gap_none.2 fun i ht => h58 (List.mem_of_getElem? ht.1)
  have hp : parts l = [l] := by unfold parts; rw [if_neg (ok4_ne h), cut_none h58]
  have hs : spell [l] = [hi4 l, lo4 l] := by unfold spell; rw [h]; rfl
  refine (ok6_no ?_).1
  unfold groups
  rw [hg, hp, hs]
  simp
theorem back4 {n : Nat} (h : n < 4294967296) : okA (text4 n) = true ∧ parseA (text4 n) = v4A n := by
  have e := ok4_text4 n
  unfold okA parseA
  rw [e, num4_text4 h]
  exact ⟨rfl, rfl⟩
theorem backA {a : Adr} (ha : a.ok) (h : rightA a = true) : okA (textA a) = true ∧ parseA (textA a) = a := by
  unfold textA
  rw [if_pos h]
  unfold rightA at h
  cases e : a.v6
  · rw [e] at h
    simp only [Bool.false_eq_true, if_false, Bool.and_eq_true, decide_eq_true_eq] at h ⊢
    obtain ⟨h1, h2⟩ := back4 h.2
    exact ⟨h1, h2.trans (adr_eq e.symm h.1.symm rfl)⟩
  · rw [e] at h
    simp only [if_true, Bool.not_eq_true'] at h ⊢
    obtain ⟨b1, b2, b3⟩ := back6 ha.1 ha.2
    have b0 : ok4 (text6 a.hi a.lo) = false := by
      cases hk : ok4 (text6 a.hi a.lo)
      · rfl
      · rw [ok4_not_ok6 hk] at b1; cases b1
    unfold okA parseA
    rw [b0, b1, b2, b3, v6A_same h]
    exact ⟨rfl, adr_eq e.symm rfl rfl⟩
theorem textA_no {a : Adr} (h : rightA a = false) : textA a = [] := by unfold textA; rw [h]; rfl
theorem textA_len (a : Adr) : (textA a).length ≤ 40 := by
  unfold textA
  split
  · split
    · exact text6_len _ _
    · exact Nat.le_trans (text4_len _) (by omega)
  · simp
theorem okA_nil : okA [] = false := by decide +kernel
/-! Bits tell an address. -/
theorem bit_test (n k : Nat) : n / 2 ^ k % 2 = (n.testBit k).toNat := (Nat.toNat_testBit n k).symm
theorem same_low {n m k : Nat} (hn : n < 2 ^ k) (hm : m < 2 ^ k) (h : ∀ j, j < k → n / 2 ^ j % 2 = m / 2 ^ j % 2) : n = m := by
  refine Nat.eq_of_testBit_eq fun j => ?_
  by_cases hj : j < k
  · have := h j hj
    rw [bit_test, bit_test] at this
    revert this
    cases n.testBit j <;> cases m.testBit j <;> decide
  · rw [Nat.testBit_lt_two_pow (Nat.lt_of_lt_of_le hn (Nat.pow_le_pow_right (by omega) (by omega))), Nat.testBit_lt_two_pow (Nat.lt_of_lt_of_le hm (Nat.pow_le_pow_right (by omega) (by omega)))]
theorem bits_same {a b : Adr} (ha : a.ok) (hb : b.ok) (ra : rightA a = true) (rb : rightA b = true) (hv : bitsA a = bitsA b) (h : ∀ i, i < bitsA a → bitN a i = bitN b i) : a = b := by
  have hv6 : a.v6 = b.v6 := by
    unfold bitsA at hv
    cases e : a.v6 <;> cases f : b.v6 <;> simp [e, f] at hv ⊢
  unfold rightA at ra rb
  unfold Adr.ok at ha hb
  cases e : a.v6
  · have f : b.v6 = false := by rw [← hv6, e]
    rw [e] at ra
    rw [f] at rb
    simp only [Bool.false_eq_true, if_false, Bool.and_eq_true, decide_eq_true_eq] at ra rb
    refine adr_eq hv6 (by omega) (same_low (k := 32) (by omega) (by omega) fun j hj => ?_)
    have := h (31 - j) (by unfold bitsA; rw [e]; simp; omega)
    unfold bitN at this
    rw [e, f] at this
    simp only [Bool.false_eq_true, if_false] at this
    rwa [show 31 - (31 - j) = j from by omega] at this
  · have f : b.v6 = true := by rw [← hv6, e]
    refine adr_eq hv6 (same_low (k := 64) (by omega) (by omega) fun j hj => ?_) (same_low (k := 64) (by omega) (by omega) fun j hj => ?_)
    · have := h (63 - j) (by unfold bitsA; rw [e]; simp; omega)
      unfold bitN at this
      rw [e, f] at this
      simp only [if_true] at this
      rwa [if_pos (by omega), if_pos (by omega), show 63 - (63 - j) = j from by omega] at this
    · have := h (127 - j) (by unfold bitsA; rw [e]; simp; omega)
      unfold bitN at this
      rw [e, f] at this
      simp only [if_true] at this
      rwa [if_neg (by omega), if_neg (by omega), show 127 - (127 - j) = j from by omega] at this
/-! One order. -/
theorem cmp_zero (a b : Adr) : cmpA a b = 0 ↔ a = b := by
  rw [← sameA_iff]
  unfold cmpA
  cases sameA a b
  · simp; split <;> omega
  · simp
theorem cmp_one (a b : Adr) : cmpA a b = 0 ∨ cmpA a b = 1 ∨ cmpA a b = -1 := by
  unfold cmpA
  split
  · exact .inl rfl
  · split
    · exact .inr (.inr rfl)
    · exact .inr (.inl rfl)
theorem lessA_iff (a b : Adr) : lessA a b = true ↔ (a.v6 = false ∧ b.v6 = true) ∨ (a.v6 = b.v6 ∧ (a.hi < b.hi ∨ (a.hi = b.hi ∧ a.lo < b.lo))) := by
  unfold lessA
  by_cases e : a.hi = b.hi
  · rw [if_pos e]
    cases a.v6 <;> cases b.v6 <;> simp [e]
  · rw [if_neg e]
    cases a.v6 <;> cases b.v6 <;> simp [e]
theorem cmp_flip (a b : Adr) : cmpA a b = -cmpA b a := by
  by_cases h : a = b
  · subst h
    have := (cmp_zero a a).2 rfl
    omega
  · have h1 : sameA a b = false := by rw [← Bool.not_eq_true, sameA_iff]; exact h
    have h2 : sameA b a = false := by rw [← Bool.not_eq_true, sameA_iff]; exact fun e => h e.symm
    have hl : lessA a b = !lessA b a := by
      rw [Bool.eq_iff_iff, Bool.not_eq_true', ← Bool.not_eq_true, lessA_iff, lessA_iff]
      have hne : ¬ (a.v6 = b.v6 ∧ a.hi = b.hi ∧ a.lo = b.lo) := fun e => h (adr_eq e.1 e.2.1 e.2.2)
      cases e : a.v6 <;> cases f : b.v6 <;> simp [e, f] at hne ⊢ <;> omega
    unfold cmpA
    rw [h1, h2, hl]
    cases lessA b a <;> simp
theorem cmp_le {a b c : Adr} (h1 : cmpA a b ≤ 0) (h2 : cmpA b c ≤ 0) : cmpA a c ≤ 0 := by
  have le_iff : ∀ x y : Adr, cmpA x y ≤ 0 ↔ x = y ∨ lessA x y = true := by
    intro x y
    rw [← sameA_iff]
    unfold cmpA
    cases sameA x y <;> cases lessA x y <;> simp
  rw [le_iff] at *
  rcases h1 with rfl | h1
  · exact h2
  · rcases h2 with rfl | h2
    · exact .inr h1
    · refine .inr ?_
      rw [lessA_iff] at *
      cases e : a.v6 <;> cases f : b.v6 <;> cases g : c.v6 <;> simp [e, f, g] at h1 h2 ⊢ <;> omega
theorem cmp_ge {a b c : Adr} (h1 : 0 ≤ cmpA a b) (h2 : 0 ≤ cmpA b c) : 0 ≤ cmpA a c := by
  have f1 := cmp_flip a b
  have f2 := cmp_flip b c
  have f3 := cmp_flip a c
  have := cmp_le (a := c) (b := b) (c := a) (by omega) (by omega)
  omega
end Go.Proofs.YtokbifndhkijiaaDoor.Ad
