/- Subnets in plain words: the first bits of an address, what is made of it, texts and what is read of them. -/
import Derived.Test.YtoanbaaonkckmaaDoorMath
namespace Go.Proofs.YtoanbaaonkckmaaDoor.Ci
open Dec Words V4 V6 Ad
/-- A number whose lowest r bits are struck. -/
def keep (n r : Nat) : Nat := n / 2 ^ r * 2 ^ r
theorem keep_le (n r : Nat) : keep n r ≤ n := Nat.div_mul_le_self _ _
theorem keep_zero (n : Nat) : keep n 0 = n := by unfold keep; simp
theorem keep_low {n r : Nat} (h : n < 2 ^ r) : keep n r = 0 := by unfold keep; rw [Nat.div_eq_of_lt h, Nat.zero_mul]
theorem keep_nil (r : Nat) : keep 0 r = 0 := by unfold keep; simp
theorem keep_bit (n r j : Nat) : (keep n r).testBit j = (decide (r ≤ j) && n.testBit j) := by
  unfold keep
  rw [← Nat.shiftRight_eq_div_pow, ← Nat.shiftLeft_eq, Nat.testBit_shiftLeft]
  by_cases h : r ≤ j
  · rw [Nat.testBit_shiftRight, show r + (j - r) = j from by omega]
  · simp [h]
theorem keep_keep (n r s : Nat) : keep (keep n r) s = keep n (max r s) := by
  refine Nat.eq_of_testBit_eq fun j => ?_
  have e : decide (max r s ≤ j) = (decide (s ≤ j) && decide (r ≤ j)) := by
    rw [Bool.eq_iff_iff, Bool.and_eq_true, decide_eq_true_eq, decide_eq_true_eq, decide_eq_true_eq]; omega
  rw [keep_bit, keep_bit, keep_bit, e, Bool.and_assoc]
theorem keep_step (n r : Nat) : keep n r = keep n (r + 1) + n / 2 ^ r % 2 * 2 ^ r := by
  unfold keep
  rw [Nat.pow_succ, ← Nat.div_div_eq_div_mul]
  have h := Nat.div_add_mod (n / 2 ^ r) 2
  calc n / 2 ^ r * 2 ^ r = (2 * (n / 2 ^ r / 2) + n / 2 ^ r % 2) * 2 ^ r := by rw [h]
    _ = _ := by rw [Nat.add_mul, Nat.mul_comm 2, Nat.mul_assoc, Nat.mul_comm 2]
theorem keep_same {n r : Nat} : keep n r = n ↔ ∀ j, j < r → n / 2 ^ j % 2 = 0 := by
  constructor
  · intro h j hj
    have := keep_bit n r j
    rw [h] at this
    rw [bit_test, this]
    simp [show ¬ r ≤ j from by omega]
  · intro h
    refine Nat.eq_of_testBit_eq fun j => ?_
    rw [keep_bit]
    by_cases hj : r ≤ j
    · simp [hj]
    · have := h j (by omega)
      rw [bit_test] at this
      revert this
      cases n.testBit j <;> simp
/-- A subnet: its address and how many bits it has. -/
structure Net where
  a : Adr
  n : Int
def zero : Net := ⟨⟨false, 0, 0⟩, 0⟩
def Net.ok (m : Net) : Prop := m.a.ok ∧ -9223372036854775808 ≤ m.n ∧ m.n ≤ 9223372036854775807
def firstA (a : Adr) (k : Nat) : Adr := ⟨a.v6, keep a.hi (bitsA a - k - 64), keep a.lo (bitsA a - k)⟩
def maskA (a : Adr) (i : Int) : Adr := if rightA a then firstA a (min i.toNat (bitsA a)) else ⟨false, 0, 0⟩
def makeB (a : Adr) (i : Int) : Bool := rightA a && (decide (0 ≤ i) && decide (i ≤ (bitsA a : Int)))
def makeN (a : Adr) (i : Int) : Net := if makeB a i then ⟨firstA a i.toNat, i⟩ else zero
def fullN (a : Adr) : Net := makeN a (bitsA a : Int)
def sameN (m n : Net) : Bool := sameA m.a n.a && m.n == n.n
def hasN (n : Net) (a : Adr) : Bool := makeB a n.n && sameN (makeN a n.n) n
def rightN (n : Net) : Bool := hasN n n.a
def textN (n : Net) : List UInt8 := if rightN n then textA n.a ++ 47 :: text n.n else []
theorem sameN_iff (m n : Net) : sameN m n = true ↔ m = n := by
  unfold sameN
  rw [Bool.and_eq_true, sameA_iff, beq_iff_eq]
  cases m; cases n; simp
theorem makeB_iff (a : Adr) (i : Int) : makeB a i = true ↔ rightA a = true ∧ 0 ≤ i ∧ i ≤ (bitsA a : Int) := by unfold makeB; simp
theorem bitsA_two (a : Adr) : bitsA a = 128 ∨ bitsA a = 32 := by unfold bitsA; split <;> omega
theorem bitsA_first (a : Adr) (k : Nat) : bitsA (firstA a k) = bitsA a := by unfold bitsA firstA; rfl
theorem firstA_ok {a : Adr} (h : a.ok) (k : Nat) : (firstA a k).ok := ⟨Nat.lt_of_le_of_lt (keep_le _ _) h.1, Nat.lt_of_le_of_lt (keep_le _ _) h.2⟩
theorem first_first (a : Adr) (j k : Nat) : firstA (firstA a j) k = firstA a (min j k) := by
  unfold firstA
  rw [show bitsA ⟨a.v6, keep a.hi (bitsA a - j - 64), keep a.lo (bitsA a - j)⟩ = bitsA a from by unfold bitsA; rfl]
  simp only [keep_keep]
  rw [show max (bitsA a - j - 64) (bitsA a - k - 64) = bitsA a - min j k - 64 from by omega, show max (bitsA a - j) (bitsA a - k) = bitsA a - min j k from by omega]
theorem keep_div {n r s : Nat} (h : r ≤ s) : keep n r / 2 ^ s = n / 2 ^ s := by
  refine Nat.eq_of_testBit_eq fun j => ?_
  rw [← Nat.shiftRight_eq_div_pow, ← Nat.shiftRight_eq_div_pow, Nat.testBit_shiftRight, Nat.testBit_shiftRight, keep_bit]
  simp [show r ≤ s + j from by omega]
theorem keep_odd {n r s : Nat} (h : s < r) : keep n r / 2 ^ s % 2 = 0 := by
  rw [bit_test, keep_bit]; simp [show ¬ r ≤ s from by omega]
theorem stands_first {hi lo : Nat} {k : Nat} (hs : stands (keep hi (128 - k - 64)) (keep lo (128 - k)) = true) : 96 ≤ k ∧ (k ≤ 128 → stands hi lo = true) := by
  rw [stands_iff] at hs
  obtain ⟨h1, h2⟩ := hs
  have hk : 96 ≤ k := by
    refine Nat.le_of_not_lt fun hk => ?_
    have := keep_odd (n := lo) (r := 128 - k) (s := 32) (by omega)
    rw [show (2 : Nat) ^ 32 = 4294967296 from rfl, h2] at this
    omega
  refine ⟨hk, fun hk2 => (stands_iff _ _).2 ⟨?_, ?_⟩⟩
  · rw [show 128 - k - 64 = 0 from by omega, keep_zero] at h1; exact h1
  · have := keep_div (n := lo) (r := 128 - k) (s := 32) (by omega)
    rw [show (2 : Nat) ^ 32 = 4294967296 from rfl] at this
    rw [← this]; exact h2
theorem first_right {a : Adr} (h : rightA a = true) (k : Nat) (hk : k ≤ bitsA a) : rightA (firstA a k) = true := by
  unfold rightA at h ⊢
  cases e : a.v6
  · rw [e] at h
    rw [show (firstA a k).v6 = false from e]
    simp only [Bool.false_eq_true, if_false, Bool.and_eq_true, decide_eq_true_eq] at h ⊢
    exact ⟨by have := keep_le a.hi (bitsA a - k - 64); show keep _ _ = 0; omega, by have := keep_le a.lo (bitsA a - k); show keep _ _ < _; omega⟩
  · have hb : bitsA a = 128 := by unfold bitsA; rw [e]; rfl
    rw [e] at h
    rw [show (firstA a k).v6 = true from e]
    simp only [if_true, Bool.not_eq_true'] at h ⊢
    rw [show (firstA a k).hi = keep a.hi (128 - k - 64) from by unfold firstA; rw [hb], show (firstA a k).lo = keep a.lo (128 - k) from by unfold firstA; rw [hb], ← Bool.not_eq_true]
    intro hs
    have := (stands_first hs).2 (by omega)
    rw [h] at this; cases this
theorem marked_right (hi lo : Nat) {k : Nat} (hk : k < 96) : rightA (firstA ⟨true, hi, lo⟩ k) = true := by
  unfold rightA
  rw [show (firstA ⟨true, hi, lo⟩ k).v6 = true from rfl, if_pos rfl, Bool.not_eq_true', ← Bool.not_eq_true]
  intro hs
  have := (stands_first (hi := hi) (lo := lo) (k := k) hs).1
  omega
theorem makeN_ok {a : Adr} (h : a.ok) (i : Int) : (makeN a i).ok := by
  unfold makeN
  split
  · rename_i hb
    rw [makeB_iff] at hb
    have := bitsA_two a
    exact ⟨firstA_ok h _, by show _ ≤ i; omega, by show i ≤ _; omega⟩
  · exact ⟨⟨by decide, by decide⟩, by decide, by decide⟩
theorem make_right {a : Adr} {i : Int} (h : makeB a i = true) : rightN (makeN a i) = true := by
  obtain ⟨h1, h2, h3⟩ := (makeB_iff a i).1 h
  have hr := first_right h1 i.toNat (by omega)
  have hm : makeB (firstA a i.toNat) i = true := (makeB_iff _ _).2 ⟨hr, h2, h3⟩
  unfold rightN hasN
  rw [show makeN a i = ⟨firstA a i.toNat, i⟩ from by unfold makeN; rw [if_pos h]]
  simp only []
  rw [hm, Bool.true_and, sameN_iff]
  unfold makeN
  rw [if_pos hm, first_first, Nat.min_self]
theorem rightN_iff (n : Net) : rightN n = true ↔ makeB n.a n.n = true ∧ firstA n.a n.n.toNat = n.a := by
  unfold rightN hasN
  rw [Bool.and_eq_true, sameN_iff]
  constructor
  · rintro ⟨h1, h2⟩
    unfold makeN at h2
    rw [if_pos h1] at h2
    exact ⟨h1, congrArg Net.a h2⟩
  · rintro ⟨h1, h2⟩
    refine ⟨h1, ?_⟩
    unfold makeN
    rw [if_pos h1, h2]
/-- By its bits: all behind the first are none. -/
theorem first_bits {a : Adr} (hr : rightA a = true) (ha : a.ok) {k : Nat} (hk : k ≤ bitsA a) : firstA a k = a ↔ ∀ j, k ≤ j → j < bitsA a → bitN a j = 0 := by
  obtain ⟨v, hi, lo⟩ := a
  obtain ⟨h1, h2⟩ := ha
  simp only [] at h1 h2
  have e : firstA ⟨v, hi, lo⟩ k = ⟨v, hi, lo⟩ ↔ keep hi (bitsA ⟨v, hi, lo⟩ - k - 64) = hi ∧ keep lo (bitsA ⟨v, hi, lo⟩ - k) = lo := by
    unfold firstA; simp
  rw [e, keep_same, keep_same]
  cases v
  · have hb : bitsA ⟨false, hi, lo⟩ = 32 := rfl
    have h0 : lo < 4294967296 := by
      unfold rightA at hr; simp at hr; exact hr.2
    rw [hb] at hk ⊢
    constructor
    · rintro ⟨_, h⟩ j h3 h4
      unfold bitN
      exact h _ (by omega)
    · intro h
      refine ⟨fun j hj => by omega, fun j hj => ?_⟩
      have := h (31 - j) (by omega) (by omega)
      unfold bitN at this
      simp only [Bool.false_eq_true, if_false] at this
      rwa [show 31 - (31 - j) = j from by omega] at this
  · have hb : bitsA ⟨true, hi, lo⟩ = 128 := rfl
    rw [hb] at hk ⊢
    constructor
    · rintro ⟨g, h⟩ j h3 h4
      unfold bitN
      simp only [if_true]
      by_cases hj : j < 64
      · rw [if_pos hj]; exact g _ (by omega)
      · rw [if_neg hj]; exact h _ (by omega)
    · intro h
      refine ⟨fun j hj => ?_, fun j hj => ?_⟩
      · have := h (63 - j) (by omega) (by omega)
        unfold bitN at this
        simp only [if_true] at this
        rwa [if_pos (by omega), show 63 - (63 - j) = j from by omega] at this
      · by_cases hj2 : j < 64
        · have := h (127 - j) (by omega) (by omega)
          unfold bitN at this
          simp only [if_true] at this
          rwa [if_neg (by omega), show 127 - (127 - j) = j from by omega] at this
        · rw [Nat.div_eq_of_lt (Nat.lt_of_lt_of_le h2 (Nat.pow_le_pow_right (n := 2) (i := 64) (by omega) (by omega)))]
/-! Texts. -/
theorem cut_mem {c d : UInt8} (h : c ≠ d) : ∀ {l : List UInt8}, c ∈ l → ∃ x ∈ cut d l, c ∈ x
  | [], h => by cases h
  | b :: l, hm => by
    by_cases e : b = d
    · subst e
      rw [cut_hit]
      obtain ⟨x, hx, hc⟩ := cut_mem h ((List.mem_cons.1 hm).resolve_left h)
      exact ⟨x, by simp [hx], hc⟩
    · obtain ⟨x, r, e1, e2⟩ := cut_off e l
      rw [e2]
      rcases List.mem_cons.1 hm with rfl | hm
      · exact ⟨c :: x, by simp, by simp⟩
      · obtain ⟨y, hy, hc⟩ := cut_mem h hm
        rw [e1] at hy
        rcases List.mem_cons.1 hy with rfl | hy
        · exact ⟨b :: y, by simp, by simp [hc]⟩
        · exact ⟨y, by simp [hy], hc⟩
theorem part_mem {l : List UInt8} (h : (47 : UInt8) ∈ l) : ∃ x ∈ parts l, (47 : UInt8) ∈ x := by
  unfold parts
  rw [if_neg (by rintro rfl; cases h)]
  exact cut_mem (by decide) h
theorem text_no47 (n : Nat) : (47 : UInt8) ∉ text (n : Int) := fun h => absurd (text_digit h) (by decide)
theorem text4_no47 (n : Nat) : (47 : UInt8) ∉ text4 n := by
  have h0 := text_no47 (n / 16777216 % 256)
  have h1 := text_no47 (n / 65536 % 256)
  have h2 := text_no47 (n / 256 % 256)
  have h3 := text_no47 (n % 256)
  unfold text4 parts4
  generalize text ((n / 16777216 % 256 : Nat) : Int) = a at *
  generalize text ((n / 65536 % 256 : Nat) : Int) = b at *
  generalize text ((n / 256 % 256 : Nat) : Int) = c at *
  generalize text ((n % 256 : Nat) : Int) = d at *
  simp [glue, h0, h1, h2, h3]
theorem ok4_no47 {l : List UInt8} (h : ok4 l = true) : (47 : UInt8) ∉ l := by rw [← text4_num4 h]; exact text4_no47 _
theorem hexB_no47 {l : List UInt8} (h : hexB l = true) : (47 : UInt8) ∉ l := fun hm => by
  rw [hexB_bad hm (by decide)] at h; cases h
theorem spell_mem (ps : List (List UInt8)) : ∀ x ∈ ps, x ∈ spell ps ∨ ok4 x = true := by
  revert ps
  refine snocRec (fun x h => by cases h) fun ps y _ x hx => ?_
  rw [spell_snoc]
  rcases List.mem_append.1 hx with hx | hx
  · exact .inl (by simp [hx])
  · obtain rfl : x = y := by simpa using hx
    cases e : ok4 x
    · exact .inl (by unfold spell; rw [e]; simp)
    · exact .inr rfl
theorem allHex_no47 {l : List UInt8} (h : allHex (spell (parts l)) = true) : (47 : UInt8) ∉ l := fun hm => by
  obtain ⟨x, hx, h47⟩ := part_mem hm
  rcases spell_mem _ x hx with hs | h4
  · unfold allHex at h
    exact hexB_no47 (List.all_eq_true.1 h x hs) h47
  · exact ok4_no47 h4 h47
theorem allHex_no47' {l : List UInt8} (h : allHex (parts l) = true) : (47 : UInt8) ∉ l := fun hm => by
  obtain ⟨x, hx, h47⟩ := part_mem hm
  unfold allHex at h
  exact hexB_no47 (List.all_eq_true.1 h x hx) h47
theorem ok6_no47 {l : List UInt8} (h : ok6 l = true) : (47 : UInt8) ∉ l := by
  unfold ok6 groups at h
  split at h
  · split at h
    · rename_i h2
      exact allHex_no47 h2.1
    · cases h
  · rename_i b a hg
    split at h
    · rename_i h2
      rw [(gap_some.1 hg).1]
      have h3 := allHex_no47' h2.1
      have h4 := allHex_no47 h2.2.1
      simp [h3, h4]
    · cases h
theorem okA_no47 {l : List UInt8} (h : okA l = true) : (47 : UInt8) ∉ l := by
  unfold okA at h
  rcases Bool.or_eq_true _ _ ▸ h with h | h
  · exact ok4_no47 h
  · exact ok6_no47 h
theorem textA_no47 {a : Adr} (ha : a.ok) (h : rightA a = true) : (47 : UInt8) ∉ textA a := okA_no47 (backA ha h).1
/-- What stands ahead of the first slash; what behind it. -/
def pre (l : List UInt8) : List UInt8 := l.takeWhile (· != 47)
def slash (l : List UInt8) : Bool := l.contains 47
def post (l : List UInt8) : List UInt8 := (l.dropWhile (· != 47)).drop 1
theorem pre_none {l : List UInt8} (h : (47 : UInt8) ∉ l) : pre l = l ∧ slash l = false := by
  refine ⟨?_, by unfold slash; simpa using h⟩
  unfold pre
  induction l with
  | nil => rfl
  | cons b l ih =>
    have h1 : b ≠ 47 := fun e => h (by simp [e])
    rw [List.takeWhile_cons, if_pos (by simpa using h1), ih (fun e => h (List.mem_cons_of_mem _ e))]
theorem pre_mid {u : List UInt8} (h : (47 : UInt8) ∉ u) (v : List UInt8) : pre (u ++ 47 :: v) = u ∧ post (u ++ 47 :: v) = v ∧ slash (u ++ 47 :: v) = true := by
  refine ⟨?_, ?_, by unfold slash; simp⟩
  · unfold pre
    induction u with
    | nil => rfl
    | cons b u ih =>
      have h1 : b ≠ 47 := fun e => h (by simp [e])
      rw [List.cons_append, List.takeWhile_cons, if_pos (by simpa using h1), ih (fun e => h (List.mem_cons_of_mem _ e))]
  · unfold post
    induction u with
    | nil => rfl
    | cons b u ih =>
      have h1 : b ≠ 47 := fun e => h (by simp [e])
      rw [List.cons_append, List.dropWhile_cons, if_pos (by simpa using h1), ih (fun e => h (List.mem_cons_of_mem _ e))]
/-- An IPv6 text that stands for an address of four bytes. -/
def marked (u : List UInt8) : Bool := ok6 u && !(parseA u).v6
def bitsT (l : List UInt8) : Int := parN (post l) 128
def okN (l : List UInt8) : Bool := okA (pre l) && (!slash l || (parB (post l) 128 && (marked (pre l) || makeB (parseA (pre l)) (bitsT l))))
def parseN (l : List UInt8) : Net :=
  if okN l then
    if slash l then
      if marked (pre l) then (if bitsT l < 96 then ⟨firstA ⟨true, hi6 (pre l), lo6 (pre l)⟩ (bitsT l).toNat, bitsT l⟩ else makeN (parseA (pre l)) (bitsT l - 96))
      else makeN (parseA (pre l)) (bitsT l)
    else fullN (parseA (pre l))
  else zero
theorem bitsT_bd (l : List UInt8) : 0 ≤ bitsT l ∧ bitsT l ≤ 128 := by
  unfold bitsT parN
  split
  · rename_i h
    have := (parB_iff _ _).1 h
    omega
  · omega
theorem okN_iff (l : List UInt8) : okN l = true ↔ okA (pre l) = true ∧ (slash l = true → parB (post l) 128 = true ∧ (marked (pre l) = false → makeB (parseA (pre l)) (bitsT l) = true)) := by
  unfold okN
  cases okA (pre l) <;> cases slash l <;> cases parB (post l) 128 <;> cases marked (pre l) <;> simp
theorem marked_is {u : List UInt8} (h : marked u = true) : ok6 u = true ∧ ok4 u = false ∧ stands (hi6 u) (lo6 u) = true ∧ parseA u = v6A (hi6 u) (lo6 u) ∧ parseA u = ⟨false, 0, lo6 u % 4294967296⟩ := by
  unfold marked at h
  rw [Bool.and_eq_true, Bool.not_eq_true'] at h
  obtain ⟨h6, hv⟩ := h
  have h4 : ok4 u = false := by
    cases hk : ok4 u
    · rfl
    · rw [ok4_not_ok6 hk] at h6; cases h6
  have hp : parseA u = v6A (hi6 u) (lo6 u) := by unfold parseA; rw [h4, h6]; rfl
  have hs : stands (hi6 u) (lo6 u) = true := by
    rw [hp] at hv
    unfold v6A at hv
    cases e : stands (hi6 u) (lo6 u)
    · rw [e] at hv; cases hv
    · rfl
  exact ⟨h6, h4, hs, hp, by rw [hp]; unfold v6A; rw [if_pos hs]⟩
theorem full_make {a : Adr} (h : rightA a = true) : makeB a (bitsA a : Int) = true := (makeB_iff _ _).2 ⟨h, by omega, by omega⟩
theorem marked_make {u : List UInt8} (h : marked u = true) {i : Int} (h1 : 96 ≤ i) (h2 : i ≤ 128) : makeB (parseA u) (i - 96) = true := by
  obtain ⟨h6, _, _, _, he⟩ := marked_is h
  refine (makeB_iff _ _).2 ⟨parseA_right (by unfold okA; rw [h6]; simp), by omega, ?_⟩
  rw [he]; show i - 96 ≤ ((32 : Nat) : Int); omega
theorem marked_low (hi lo : Nat) {i : Int} (h0 : 0 ≤ i) (h : i < 96) : makeB (firstA ⟨true, hi, lo⟩ i.toNat) i = true ∧ makeN (firstA ⟨true, hi, lo⟩ i.toNat) i = ⟨firstA ⟨true, hi, lo⟩ i.toNat, i⟩ := by
  have hm : makeB (firstA ⟨true, hi, lo⟩ i.toNat) i = true := (makeB_iff _ _).2 ⟨marked_right hi lo (by omega), h0, by rw [bitsA_first]; show i ≤ ((128 : Nat) : Int); omega⟩
  refine ⟨hm, ?_⟩
  unfold makeN
  rw [if_pos hm, first_first, Nat.min_self]
theorem parseN_no {l : List UInt8} (h : okN l = false) : parseN l = zero := by unfold parseN; rw [h]; rfl
theorem parseN_right {l : List UInt8} (h : okN l = true) : rightN (parseN l) = true := by
  obtain ⟨h1, h2⟩ := (okN_iff l).1 h
  unfold parseN
  rw [if_pos h]
  have hb := bitsT_bd l
  cases hs : slash l
  · exact make_right (full_make (parseA_right h1))
  · obtain ⟨_, h4⟩ := h2 hs
    cases hm : marked (pre l)
    · exact make_right (h4 hm)
    · simp only [if_true]
      by_cases h96 : bitsT l < 96
      · rw [if_pos h96, ← (marked_low (hi6 (pre l)) (lo6 (pre l)) hb.1 h96).2]
        exact make_right (marked_low _ _ hb.1 h96).1
      · rw [if_neg h96]
        exact make_right (marked_make hm (by omega) hb.2)
theorem parseN_ok (l : List UInt8) : (parseN l).ok := by
  have hb := bitsT_bd l
  unfold parseN
  split
  · split
    · split
      · split
        · exact ⟨firstA_ok ⟨hi6_lt _, lo6_lt _⟩ _, by show _ ≤ bitsT l; omega, by show bitsT l ≤ _; omega⟩
        · exact makeN_ok (parseA_ok _) _
      · exact makeN_ok (parseA_ok _) _
    · exact makeN_ok (parseA_ok _) _
  · exact ⟨⟨by decide, by decide⟩, by decide, by decide⟩
theorem text_back_marked {a : Adr} (ha : a.ok) (h : rightA a = true) : marked (textA a) = false := by
  obtain ⟨h1, h2⟩ := backA ha h
  unfold marked
  rw [h2]
  cases e : a.v6
  · have : textA a = text4 a.lo := by unfold textA; rw [if_pos h, e]; rfl
    rw [this, ok4_not_ok6 (ok4_text4 _)]; rfl
  · simp
theorem backN {n : Net} (hn : n.ok) (h : rightN n = true) : okN (textN n) = true ∧ parseN (textN n) = n := by
  obtain ⟨h1, h2⟩ := (rightN_iff n).1 h
  obtain ⟨h3, h4, h5⟩ := (makeB_iff _ _).1 h1
  have hb := bitsA_two n.a
  have e : textN n = textA n.a ++ 47 :: text n.n := by unfold textN; rw [if_pos h]
  obtain ⟨p1, p2, p3⟩ := pre_mid (textA_no47 hn.1 h3) (text n.n)
  rw [← e] at p1 p2 p3
  obtain ⟨b1, b2⟩ := backA hn.1 h3
  have hp : parB (text n.n) 128 = true := by rw [parB_text]; simp; omega
  have ht : bitsT (textN n) = n.n := by unfold bitsT; rw [p2, parN_text hp]
  have hm := text_back_marked hn.1 h3
  have hok : okN (textN n) = true := (okN_iff _).2 ⟨by rw [p1]; exact b1, fun _ => ⟨by rw [p2]; exact hp, fun _ => by rw [p1, b2, ht]; exact h1⟩⟩
  refine ⟨hok, ?_⟩
  unfold parseN
  rw [if_pos hok, if_pos p3, p1, hm, b2, ht]
  unfold makeN
  rw [if_pos h1, h2]; rfl
theorem textN_no {n : Net} (h : rightN n = false) : textN n = [] := by unfold textN; rw [h]; rfl
theorem okN_nil : okN [] = false := by decide +kernel
theorem textN_bad {n : Net} (h : rightN n = true) : okA (textN n) = false := by
  cases e : okA (textN n)
  · rfl
  · refine absurd ?_ (okA_no47 e)
    unfold textN
    rw [if_pos h]; simp
theorem textN_len {n : Net} (hn : n.ok) : (textN n).length ≤ 62 := by
  unfold textN
  split
  · have h1 := textA_len n.a
    have h2 := text_len n.n hn.2.1 hn.2.2
    simp; omega
  · simp
end Go.Proofs.YtoanbaaonkckmaaDoor.Ci
