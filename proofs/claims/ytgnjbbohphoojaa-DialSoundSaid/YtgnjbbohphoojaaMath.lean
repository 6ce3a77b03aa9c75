/- Plain mathematics of digits: what a number is written as, and what digits stand for. Imports nothing of the dump. -/
import Derived.WalkKit
import Derived.Lib.Split
import Derived.Lib.SplitLaws
import Derived.Lib.Join
namespace Go.Proofs.Ytgnjbbohphoojaa.Dec
theorem snocRec {α : Type} {P : List α → Prop} (nil : P []) (snoc : ∀ l c, P l → P (l ++ [c])) (l : List α) : P l := by
  have h : ∀ m : List α, P m.reverse := by
    intro m
    induction m with
    | nil => exact nil
    | cons c m ih => rw [List.reverse_cons]; exact snoc _ _ ih
  have := h l.reverse
  rwa [List.reverse_reverse] at this
/-- The digit of a number below 16. -/
def digit (d : Nat) : UInt8 := if d < 10 then UInt8.ofNat (48 + d) else UInt8.ofNat (87 + d)
/-- What a digit stands for; 16 for any other byte. -/
def dv (c : UInt8) : Nat := if 48 ≤ c.toNat ∧ c.toNat ≤ 57 then c.toNat - 48 else if 97 ≤ c.toNat ∧ c.toNat ≤ 102 then c.toNat - 87 else if 65 ≤ c.toNat ∧ c.toNat ≤ 70 then c.toNat - 55 else 16
theorem dv_le (c : UInt8) : dv c ≤ 16 := by unfold dv; repeat (first | split | omega)
theorem dv_digit {d : Nat} (h : d < 16) : dv (digit d) = d := by
  have : ∀ d : Fin 16, dv (digit d.val) = d.val := by decide
  exact this ⟨d, h⟩
/-- Digits of base b, the greatest first. -/
def digsF : Nat → Nat → Nat → List UInt8
  | 0, _, n => [digit n]
  | f + 1, b, n => if n < b then [digit n] else digsF f b (n / b) ++ [digit (n % b)]
def digs (b n : Nat) : List UInt8 := digsF n b n
theorem digsF_eq (b : Nat) (hb : 2 ≤ b) : ∀ f g n, n ≤ f → n ≤ g → digsF f b n = digsF g b n
  | 0, 0, _, _, _ => rfl
  | 0, g + 1, n, hf, _ => by
    have : n = 0 := by omega
    subst this
    rw [digsF, digsF, if_pos (by omega)]
  | f + 1, 0, n, _, hg => by
    have : n = 0 := by omega
    subst this
    rw [digsF, digsF, if_pos (by omega)]
  | f + 1, g + 1, n, hf, hg => by
    rw [digsF, digsF]
    by_cases h : n < b
    · rw [if_pos h, if_pos h]
    · have : n / b < n := Nat.div_lt_self (by omega) (by omega)
      rw [if_neg h, if_neg h, digsF_eq b hb f g (n / b) (by omega) (by omega)]
theorem digs_lo {b n : Nat} (h : n < b) : digs b n = [digit n] := by
  unfold digs
  cases n with
  | zero => rfl
  | succ n => rw [digsF, if_pos h]
theorem digs_hi {b n : Nat} (hb : 2 ≤ b) (h : b ≤ n) : digs b n = digs b (n / b) ++ [digit (n % b)] := by
  unfold digs
  cases n with
  | zero => omega
  | succ n =>
    have : (n + 1) / b < n + 1 := Nat.div_lt_self (by omega) (by omega)
    rw [digsF, if_neg (by omega), digsF_eq b hb n ((n + 1) / b) _ (by omega) (by omega)]
theorem digs_ne (b n : Nat) : digs b n ≠ [] := by
  unfold digs
  cases n with
  | zero => simp [digsF]
  | succ n => rw [digsF]; split <;> simp
/-- Enough figures: k digits hold what is below b^k. -/
theorem digs_len {b : Nat} (hb : 2 ≤ b) : ∀ (k n : Nat), n < b ^ (k + 1) → (digs b n).length ≤ k + 1
  | 0, n, h => by rw [digs_lo (by simpa using h)]; simp
  | k + 1, n, h => by
    by_cases hn : n < b
    · rw [digs_lo hn]; simp
    · have : n / b < b ^ (k + 1) := Nat.div_lt_of_lt_mul (by rw [Nat.pow_succ, Nat.mul_comm] at h; exact h)
      have := digs_len hb k (n / b) this
      rw [digs_hi hb (by omega)]; simp; omega
/-- The value of digits. -/
def valb (b : Nat) (l : List UInt8) : Nat := l.foldl (fun a c => a * b + dv c) 0
theorem valb_nil (b : Nat) : valb b [] = 0 := rfl
theorem valb_snoc (b : Nat) (l : List UInt8) (c : UInt8) : valb b (l ++ [c]) = valb b l * b + dv c := by simp [valb, List.foldl_append]
theorem valb_digs {b : Nat} (hb : 2 ≤ b) (h16 : b ≤ 16) (n : Nat) : valb b (digs b n) = n := by
  induction n using Nat.strongRecOn with
  | _ n ih =>
    by_cases h : n < b
    · rw [digs_lo h]; simp [valb, dv_digit (show n < 16 by omega)]
    · have h1 : n / b < n := Nat.div_lt_self (by omega) (by omega)
      have h2 : n % b < b := Nat.mod_lt _ (by omega)
      rw [digs_hi hb (by omega), valb_snoc, ih _ h1, dv_digit (by omega), Nat.mul_comm]
      exact Nat.div_add_mod n b
theorem digs_all {b : Nat} (hb : 2 ≤ b) (h16 : b ≤ 16) (n : Nat) : ∀ c ∈ digs b n, dv c < b := by
  induction n using Nat.strongRecOn with
  | _ n ih =>
    by_cases h : n < b
    · rw [digs_lo h]; simp [dv_digit (show n < 16 by omega)]; exact h
    · have h1 : n / b < n := Nat.div_lt_self (by omega) (by omega)
      have h2 : n % b < b := Nat.mod_lt _ (by omega)
      rw [digs_hi hb (by omega)]
      intro c hc
      rcases List.mem_append.1 hc with hc | hc
      · exact ih _ h1 c hc
      · simp at hc; subst hc; rw [dv_digit (by omega)]; exact h2
theorem valb_lt {b : Nat} (l : List UInt8) (h : ∀ c ∈ l, dv c < b) : valb b l < b ^ l.length := by
  induction l using snocRec with
  | nil => simp [valb]
  | snoc l c ih =>
    have h1 := ih (fun x hx => h x (by simp [hx]))
    have h2 := h c (by simp)
    rw [valb_snoc, List.length_append, List.length_singleton, Nat.pow_succ]
    have h3 : (valb b l + 1) * b ≤ b ^ l.length * b := Nat.mul_le_mul_right b h1
    rw [Nat.add_mul] at h3; omega
theorem valb_mono {b : Nat} (hb : 1 ≤ b) (l m : List UInt8) : valb b l ≤ valb b (l ++ m) := by
  induction m using snocRec with
  | nil => simp
  | snoc m c ih =>
    rw [← List.append_assoc, valb_snoc]
    have : valb b (l ++ m) * 1 ≤ valb b (l ++ m) * b := Nat.mul_le_mul_left _ hb
    omega
theorem valb_take {b : Nat} (hb : 1 ≤ b) (l : List UInt8) (k : Nat) : valb b (l.take k) ≤ valb b l := by
  have := valb_mono hb (l.take k) (l.drop k)
  rwa [List.take_append_drop] at this
/-- A text of digits to base 10 with no zero that leads. -/
def okDec (l : List UInt8) : Bool := !l.isEmpty && (decide (l.length ≤ 1) || !(l.head? == some 48)) && l.all (fun c => decide (dv c < 10))
theorem dv_lt10 {c : UInt8} (h : dv c < 10) : digit (dv c) = c := by
  have : ∀ c : Fin 256, dv (UInt8.ofNat c.val) < 10 → digit (dv (UInt8.ofNat c.val)) = UInt8.ofNat c.val := by decide +kernel
  have h1 := this ⟨c.toNat, c.toNat_lt⟩
  simp only [UInt8.ofNat_toNat] at h1
  exact h1 h
theorem dv_zero {c : UInt8} (h : dv c = 0) : c = 48 := by
  have : ∀ c : Fin 256, dv (UInt8.ofNat c.val) = 0 → UInt8.ofNat c.val = 48 := by decide +kernel
  have h1 := this ⟨c.toNat, c.toNat_lt⟩
  simp only [UInt8.ofNat_toNat] at h1
  exact h1 h
theorem okDec_iff (l : List UInt8) : okDec l = true ↔ l ≠ [] ∧ (l.length ≤ 1 ∨ l.head? ≠ some 48) ∧ ∀ c ∈ l, dv c < 10 := by
  unfold okDec
  cases l <;> simp
theorem okDec_pos {l : List UInt8} (h : okDec l = true) (h2 : 2 ≤ l.length) : 10 ^ (l.length - 1) ≤ valb 10 l := by
  obtain ⟨h0, h1, h3⟩ := (okDec_iff l).1 h
  cases l with
  | nil => exact absurd rfl h0
  | cons c m =>
    have hc : c ≠ 48 := by
      rcases h1 with h1 | h1
      · omega
      · simpa using h1
    have hd : 1 ≤ dv c := by
      rcases Nat.eq_zero_or_pos (dv c) with e | e
      · exact absurd (dv_zero e) hc
      · exact e
    clear h h0 h1 h2 h3
    induction m using snocRec with
    | nil => simpa [valb] using hd
    | snoc m x ih =>
      rw [← List.cons_append, valb_snoc]
      have : (c :: m ++ [x]).length - 1 = ((c :: m).length - 1) + 1 := by simp
      rw [this, Nat.pow_succ]
      have := Nat.mul_le_mul_right 10 ih
      omega
theorem digs_valb {l : List UInt8} (h : okDec l = true) : digs 10 (valb 10 l) = l := by
  obtain ⟨h0, h1, h3⟩ := (okDec_iff l).1 h
  clear h
  induction l using snocRec with
  | nil => exact absurd rfl h0
  | snoc m x ih =>
    have hx := h3 x (by simp)
    by_cases hm : m = []
    · subst hm
      simp only [List.nil_append, valb, List.foldl_cons, List.foldl_nil, Nat.zero_mul, Nat.zero_add]
      rw [digs_lo hx, dv_lt10 hx]
    · have hl : 1 ≤ m.length := by cases m with | nil => exact absurd rfl hm | cons _ _ => simp
      have hh : m.head? ≠ some 48 := by
        rcases h1 with h1 | h1
        · rw [List.length_append, List.length_singleton] at h1; omega
        · cases m with | nil => exact absurd rfl hm | cons a t => simpa using h1
      have hok : okDec m = true := (okDec_iff m).2 ⟨hm, Or.inr hh, fun c hc => h3 c (by simp [hc])⟩
      have e := ih hm (Or.inr hh) (fun c hc => h3 c (by simp [hc]))
      have hp : 1 ≤ valb 10 m := by
        by_cases h2 : 2 ≤ m.length
        · have := okDec_pos hok h2
          have : 0 < 10 ^ (m.length - 1) := Nat.pow_pos (by omega)
          omega
        · cases m with
          | nil => exact absurd rfl hm
          | cons a t =>
            cases t with
            | cons _ _ => simp at h2
            | nil =>
              rcases Nat.eq_zero_or_pos (dv a) with e2 | e2
              · exact absurd (by rw [dv_zero e2]; rfl) hh
              · simp [valb]; omega
      rw [valb_snoc, digs_hi (by omega) (by omega)]
      have e1 : (valb 10 m * 10 + dv x) / 10 = valb 10 m := by omega
      have e2 : (valb 10 m * 10 + dv x) % 10 = dv x := by omega
      rw [e1, e2, e, dv_lt10 hx]
theorem digs_pos_head {n : Nat} (hn : 0 < n) : (digs 10 n).head? ≠ some 48 := by
  induction n using Nat.strongRecOn with
  | _ n ih =>
    by_cases h : n < 10
    · rw [digs_lo h]
      simp only [List.head?_cons]
      intro e
      have := dv_digit (show n < 16 by omega)
      injection e with e
      rw [e] at this
      have h0 : dv 48 = 0 := by decide
      omega
    · rw [digs_hi (by omega) (by omega)]
      have h1 := ih (n / 10) (Nat.div_lt_self (by omega) (by omega)) (by omega)
      have h2 := digs_ne 10 (n / 10)
      cases hd : digs 10 (n / 10) with
      | nil => exact absurd hd h2
      | cons a t => rw [hd] at h1; simpa using h1
theorem okDec_digs (n : Nat) : okDec (digs 10 n) = true := by
  rw [okDec_iff]
  refine ⟨digs_ne _ _, ?_, digs_all (by omega) (by omega) n⟩
  rcases Nat.eq_zero_or_pos n with h | h
  · left; subst h; rw [digs_lo (by omega)]; simp
  · right; exact digs_pos_head h
/-- A number's text. -/
def text (n : Int) : List UInt8 := if n < 0 then 45 :: digs 10 n.natAbs else digs 10 n.natAbs
theorem okDec_text {n : Int} (h : n < 0) : okDec (text n) = false := by
  unfold text
  rw [if_pos h]
  cases hk : okDec (45 :: digs 10 n.natAbs)
  · rfl
  · have := ((okDec_iff _).1 hk).2.2 45 (by simp)
    exact absurd this (by decide)
theorem text_len (n : Int) (h0 : -9223372036854775808 ≤ n) (h1 : n ≤ 9223372036854775807) : (text n).length ≤ 21 := by
  have hl := digs_len (b := 10) (by omega) 19 n.natAbs (by
    have : (10 : Nat) ^ 20 = 100000000000000000000 := by decide
    omega)
  unfold text
  split <;> simp <;> omega
def parB (l : List UInt8) (most : Int) : Bool := okDec l && decide ((valb 10 l : Int) ≤ most)
def parN (l : List UInt8) (most : Int) : Int := if parB l most then (valb 10 l : Int) else 0
theorem parN_of {l : List UInt8} {most : Int} (h : parB l most = true) : parN l most = valb 10 l := by unfold parN; rw [if_pos h]
theorem parN_no {l : List UInt8} {most : Int} (h : parB l most = false) : parN l most = 0 := by unfold parN; rw [h]; rfl
theorem parB_iff (l : List UInt8) (most : Int) : parB l most = true ↔ okDec l = true ∧ (valb 10 l : Int) ≤ most := by unfold parB; simp
theorem parB_bad {l : List UInt8} {c : UInt8} (most : Int) (hc : c ∈ l) (h : 10 ≤ dv c) : parB l most = false := by
  cases e : parB l most
  · rfl
  · have := ((okDec_iff l).1 ((parB_iff l most).1 e).1).2.2 c hc; omega
theorem parB_over {l : List UInt8} {most : Int} (k : Nat) (h : most < valb 10 (l.take k)) : parB l most = false := by
  cases e : parB l most
  · rfl
  · have h1 := ((parB_iff l most).1 e).2
    have h2 := valb_take (b := 10) (by omega) l k; omega
theorem parB_nil {l : List UInt8} (most : Int) (h : l = []) : parB l most = false := by subst h; rfl
theorem parB_zero {l : List UInt8} (most : Int) (h : 1 < l.length) (h0 : l.head? = some 48) : parB l most = false := by
  cases e : parB l most
  · rfl
  · rcases ((okDec_iff l).1 ((parB_iff l most).1 e).1).2.1 with h1 | h1
    · omega
    · exact absurd h0 h1
theorem parB_yes {l : List UInt8} {most : Int} (h1 : 1 ≤ l.length) (h2 : l.length ≤ 1 ∨ l.head? ≠ some 48) (h3 : ∀ c ∈ l, dv c < 10) (h4 : (valb 10 l : Int) ≤ most) : parB l most = true :=
  (parB_iff l most).2 ⟨(okDec_iff l).2 ⟨by intro e; subst e; simp at h1, h2, h3⟩, h4⟩
theorem dv_dec (c : UInt8) : dv c < 10 ↔ 48 ≤ c.toNat ∧ c.toNat ≤ 57 := by
  unfold dv
  by_cases h1 : 48 ≤ c.toNat ∧ c.toNat ≤ 57
  · rw [if_pos h1]; omega
  · rw [if_neg h1]
    by_cases h2 : 97 ≤ c.toNat ∧ c.toNat ≤ 102
    · rw [if_pos h2]; omega
    · rw [if_neg h2]
      by_cases h3 : 65 ≤ c.toNat ∧ c.toNat ≤ 70
      · rw [if_pos h3]; omega
      · rw [if_neg h3]; omega
theorem dv_of {c : UInt8} (h1 : 48 ≤ c.toNat) (h2 : c.toNat ≤ 57) : dv c = c.toNat - 48 := by unfold dv; rw [if_pos ⟨h1, h2⟩]
theorem parB_long {l : List UInt8} {most : Int} (h : 19 < l.length) (hm : most ≤ 9223372036854775807) : parB l most = false := by
  cases e : parB l most
  · rfl
  · obtain ⟨h1, h2⟩ := (parB_iff l most).1 e
    have h3 := okDec_pos h1 (by omega)
    have h4 : (10 : Nat) ^ 19 ≤ 10 ^ (l.length - 1) := Nat.pow_le_pow_right (by omega) (by omega)
    have h5 : (10 : Nat) ^ 19 = 10000000000000000000 := by decide
    omega
theorem val_lt19 {l : List UInt8} (h : ∀ c ∈ l, dv c < 10) (hk : l.length ≤ 19) : valb 10 l < 10000000000000000000 := by
  have h1 := valb_lt (b := 10) l h
  have h2 : 10 ^ l.length ≤ 10 ^ 19 := Nat.pow_le_pow_right (by omega) hk
  have h5 : (10 : Nat) ^ 19 = 10000000000000000000 := by decide
  omega
theorem parB_digs {l : List UInt8} {most : Int} (h : digs 10 (valb 10 l) ≠ l) : parB l most = false := by
  cases e : parB l most
  · rfl
  · exact absurd (digs_valb ((parB_iff l most).1 e).1) h
theorem parB_more {l : List UInt8} {most : Int} (h : most < valb 10 l) : parB l most = false := by
  cases e : parB l most
  · rfl
  · have := ((parB_iff l most).1 e).2; omega
theorem parB_same {l : List UInt8} {most : Int} (h : digs 10 (valb 10 l) = l) (h2 : (valb 10 l : Int) ≤ most) : parB l most = true :=
  (parB_iff l most).2 ⟨by rw [← h]; exact okDec_digs _, h2⟩
/-- De3: what was written is read. -/
theorem parB_text (n most : Int) : parB (text n) most = (decide (0 ≤ n) && decide (n ≤ most)) := by
  by_cases h : n < 0
  · unfold parB; rw [okDec_text h]; simp; omega
  · unfold parB text
    rw [if_neg h, okDec_digs, valb_digs (by omega) (by omega)]
    have e : ((n.natAbs : Nat) : Int) = n := by omega
    rw [e]; simp; omega
theorem parN_text {n most : Int} (h : parB (text n) most = true) : parN (text n) most = n := by
  have h1 := parB_text n most
  rw [h] at h1
  have h2 : 0 ≤ n := by
    have := h1.symm
    simp at this; exact this.1
  rw [parN_of h]
  unfold text
  rw [if_neg (by omega), valb_digs (by omega) (by omega)]; omega
theorem text_parN {l : List UInt8} {most : Int} (h : parB l most = true) : text (parN l most) = l := by
  rw [parN_of h]
  unfold text
  rw [if_neg (by omega), Int.natAbs_natCast]
  exact digs_valb ((parB_iff _ _).1 h).1
theorem parN_bd (l : List UInt8) (most : Int) (h0 : -9223372036854775808 ≤ most) (h1 : most ≤ 9223372036854775807) : 0 ≤ parN l most ∧ parN l most ≤ 9223372036854775807 := by
  cases e : parB l most
  · rw [parN_no e]; omega
  · have := ((parB_iff l most).1 e).2
    rw [parN_of e]; omega
/-- Digits of base 16. -/
def hexB (l : List UInt8) : Bool := decide (1 ≤ l.length) && decide (l.length ≤ 4) && l.all (fun c => decide (dv c < 16))
def hexN (l : List UInt8) : Int := if hexB l then (valb 16 l : Int) else 0
def hex (n : Int) : List UInt8 := if n < 0 ∨ 65535 < n then [] else digs 16 n.natAbs
theorem hexB_iff (l : List UInt8) : hexB l = true ↔ 1 ≤ l.length ∧ l.length ≤ 4 ∧ ∀ c ∈ l, dv c < 16 := by unfold hexB; simp [and_assoc]
theorem hexB_bad {l : List UInt8} {c : UInt8} (hc : c ∈ l) (h : 16 ≤ dv c) : hexB l = false := by
  cases e : hexB l
  · rfl
  · have := ((hexB_iff l).1 e).2.2 c hc; omega
theorem hexB_len {l : List UInt8} (h : l.length < 1 ∨ 4 < l.length) : hexB l = false := by
  cases e : hexB l
  · rfl
  · have := (hexB_iff l).1 e; omega
theorem val_lt4 {l : List UInt8} (h : ∀ c ∈ l, dv c < 16) (k : Nat) (hk : l.length ≤ k) : valb 16 l < 16 ^ k :=
  Nat.lt_of_lt_of_le (valb_lt l h) (Nat.pow_le_pow_right (by omega) hk)
theorem hexN_of {l : List UInt8} (h : hexB l = true) : hexN l = valb 16 l := by unfold hexN; rw [if_pos h]
theorem hexN_no {l : List UInt8} (h : hexB l = false) : hexN l = 0 := by unfold hexN; rw [h]; rfl
theorem hexN_bd (l : List UInt8) : 0 ≤ hexN l ∧ hexN l ≤ 65535 := by
  cases h : hexB l
  · rw [hexN_no h]; omega
  · rw [hexN_of h]
    obtain ⟨_, h2, h3⟩ := (hexB_iff l).1 h
    have := valb_lt (b := 16) l h3
    have h4 : 16 ^ l.length ≤ 16 ^ 4 := Nat.pow_le_pow_right (by omega) h2
    have h5 : (16 : Nat) ^ 4 = 65536 := by decide
    omega
theorem hexB_hex (n : Int) : hexB (hex n) = (decide (0 ≤ n) && decide (n ≤ 65535)) := by
  unfold hex
  by_cases h : n < 0 ∨ 65535 < n
  · rw [if_pos h]; simp [hexB]; omega
  · rw [if_neg h]
    have h1 := digs_len (b := 16) (by omega) 3 n.natAbs (by simp; omega)
    have h2 := digs_ne 16 n.natAbs
    have h3 : 1 ≤ (digs 16 n.natAbs).length := by
      cases hd : digs 16 n.natAbs with
      | nil => exact absurd hd h2
      | cons _ _ => simp
    rw [(hexB_iff _).2 ⟨h3, h1, digs_all (by omega) (by omega) _⟩]
    simp; omega
theorem hex_len (n : Int) : (hex n).length ≤ 4 := by
  unfold hex
  split
  · simp
  · exact digs_len (b := 16) (by omega) 3 n.natAbs (by simp; omega)
theorem hexN_hex {n : Int} (h : hexB (hex n) = true) : hexN (hex n) = n := by
  have h1 := hexB_hex n
  rw [h] at h1
  have h2 : 0 ≤ n ∧ n ≤ 65535 := by
    have := h1.symm
    simp at this; exact this
  rw [hexN_of h]
  unfold hex
  rw [if_neg (by omega), valb_digs (by omega) (by omega)]; omega
end Go.Proofs.Ytgnjbbohphoojaa.Dec
/- Plain words on texts that are cut at a byte, and parts that are put together: no program. -/
namespace Go.Proofs.Ytgnjbbohphoojaa.Words
/-- The parts between the bytes c. -/
def cut (c : UInt8) : List UInt8 → List (List UInt8)
  | [] => [[]]
  | b :: l => if b = c then [] :: cut c l else match cut c l with
    | [] => [[b]]
    | x :: r => (b :: x) :: r
/-- The parts with c between each two. -/
def glue (c : UInt8) : List (List UInt8) → List UInt8
  | [] => []
  | x :: r => match r with
    | [] => x
    | y :: t => x ++ c :: glue c (y :: t)
theorem cut_ne (c : UInt8) (l : List UInt8) : cut c l ≠ [] := by
  cases l with
  | nil => simp [cut]
  | cons b l =>
    unfold cut
    split
    · simp
    · split <;> simp
theorem cut_hit (c : UInt8) (l : List UInt8) : cut c (c :: l) = [] :: cut c l := by rw [cut, if_pos rfl]
theorem cut_off {c b : UInt8} (h : b ≠ c) (l : List UInt8) : ∃ x r, cut c l = x :: r ∧ cut c (b :: l) = (b :: x) :: r := by
  cases e : cut c l with
  | nil => exact absurd e (cut_ne c l)
  | cons x r => exact ⟨x, r, rfl, by rw [cut, if_neg h, e]⟩
theorem cut_none {c : UInt8} : ∀ {l : List UInt8}, c ∉ l → cut c l = [l]
  | [], _ => rfl
  | b :: l, h => by
    have h1 : b ≠ c := fun e => h (by simp [e])
    have h2 := cut_none (l := l) (fun e => h (List.mem_cons_of_mem _ e))
    rw [cut, if_neg h1, h2]
theorem cut_mid {c : UInt8} {a : List UInt8} (h : c ∉ a) (r : List UInt8) : cut c (a ++ c :: r) = a :: cut c r := by
  induction a with
  | nil => exact cut_hit c r
  | cons b a ih =>
    have h1 : b ≠ c := fun e => h (by simp [e])
    have h2 := ih (fun e => h (List.mem_cons_of_mem _ e))
    rw [List.cons_append, cut, if_neg h1, h2]
theorem cut_len (c : UInt8) : ∀ l : List UInt8, (cut c l).length = l.count c + 1
  | [] => rfl
  | b :: l => by
    by_cases h : b = c
    · subst h; rw [cut_hit, List.length_cons, cut_len b l, List.count_cons_self]
    · obtain ⟨x, r, e1, e2⟩ := cut_off h l
      have := cut_len c l
      rw [e1] at this
      rw [e2, List.count_cons_of_ne (by simpa using h), ← this]; rfl
theorem cut_one {c : UInt8} {l : List UInt8} : (cut c l).length = 1 ↔ c ∉ l := by
  rw [cut_len, ← List.count_eq_zero (a := c)]; omega
theorem cut_parts (c : UInt8) : ∀ l : List UInt8, ∀ x ∈ cut c l, c ∉ x
  | [], x, h => by simp [cut] at h; subst h; simp
  | b :: l, x, h => by
    by_cases e : b = c
    · subst e; rw [cut_hit] at h
      rcases List.mem_cons.1 h with h | h
      · subst h; simp
      · exact cut_parts b l x h
    · obtain ⟨y, r, e1, e2⟩ := cut_off e l
      have ih := cut_parts c l
      rw [e1] at ih
      rw [e2] at h
      rcases List.mem_cons.1 h with h | h
      · subst h
        have := ih y (by simp)
        simp [this, Ne.symm e]
      · exact ih x (List.mem_cons_of_mem _ h)
theorem glue_cons (c : UInt8) (x : List UInt8) {r : List (List UInt8)} (h : r ≠ []) : glue c (x :: r) = x ++ c :: glue c r := by
  cases r with
  | nil => exact absurd rfl h
  | cons y t => rfl
theorem glue_cut (c : UInt8) : ∀ l : List UInt8, glue c (cut c l) = l
  | [] => rfl
  | b :: l => by
    by_cases e : b = c
    · subst e; rw [cut_hit, glue_cons _ _ (cut_ne b l), glue_cut b l]; rfl
    · obtain ⟨x, r, e1, e2⟩ := cut_off e l
      have ih := glue_cut c l
      rw [e1] at ih
      rw [e2]
      cases r with
      | nil => simp [glue] at ih ⊢; exact ih
      | cons y t => rw [glue_cons _ _ (by simp)] at ih ⊢; rw [List.cons_append, ih]
theorem cut_glue {c : UInt8} : ∀ {ls : List (List UInt8)}, ls ≠ [] → (∀ x ∈ ls, c ∉ x) → cut c (glue c ls) = ls
  | [], h, _ => absurd rfl h
  | x :: r, _, ha => by
    cases r with
    | nil => exact cut_none (ha x (by simp))
    | cons y t =>
      rw [glue_cons _ _ (by simp), cut_mid (ha x (by simp)), cut_glue (by simp) (fun z hz => ha z (List.mem_cons_of_mem _ hz))]
theorem glue_snoc (c : UInt8) (x : List UInt8) : ∀ {ls : List (List UInt8)}, ls ≠ [] → glue c (ls ++ [x]) = glue c ls ++ c :: x
  | [], h => absurd rfl h
  | y :: r, _ => by
    cases r with
    | nil => rfl
    | cons z t =>
      have h1 : glue c (y :: (z :: t)) = y ++ c :: glue c (z :: t) := glue_cons c y (by simp)
      have h2 : glue c (y :: (z :: t ++ [x])) = y ++ c :: glue c (z :: t ++ [x]) := glue_cons c y (by simp)
      rw [List.cons_append, h2, glue_snoc c x (ls := z :: t) (by simp), h1]; simp
theorem glue_append (c : UInt8) : ∀ {xs ys : List (List UInt8)}, xs ≠ [] → ys ≠ [] → glue c (xs ++ ys) = glue c xs ++ c :: glue c ys
  | [], _, h, _ => absurd rfl h
  | x :: r, ys, _, h2 => by
    cases r with
    | nil => rw [List.cons_append, List.nil_append, glue_cons _ _ h2]; rfl
    | cons y t =>
      have h1 : glue c (x :: (y :: t ++ ys)) = x ++ c :: glue c (y :: t ++ ys) := glue_cons c x (by simp)
      have h3 : glue c (x :: (y :: t)) = x ++ c :: glue c (y :: t) := glue_cons c x (by simp)
      rw [List.cons_append, h1, glue_append c (xs := y :: t) (by simp) h2, h3]; simp
theorem glue_take_le (c : UInt8) (ls : List (List UInt8)) (k : Nat) : (glue c (ls.take k)).length ≤ (glue c ls).length := by
  by_cases h1 : ls.take k = []
  · rw [h1]; simp [glue]
  · by_cases h2 : ls.drop k = []
    · rw [List.take_of_length_le (by have := congrArg List.length h2; simp at this; omega)]; exact Nat.le_refl _
    · conv => rhs; rw [← List.take_append_drop k ls, glue_append c h1 h2]
      simp
theorem glue_at_le (c : UInt8) (ls : List (List UInt8)) (k : Nat) (h : k < ls.length) : (glue c (ls.take (k + 1))).length = (glue c (ls.take k)).length + (if k = 0 then 0 else 1) + ls[k].length := by
  rw [List.take_succ_eq_append_getElem h]
  by_cases h0 : k = 0
  · subst h0; simp [glue]
  · rw [glue_snoc c _ (by intro e; rw [List.take_eq_nil_iff] at e; rcases e with e | e; exact h0 e; subst e; simp at h), if_neg h0]
    simp; omega
theorem glue_lib (c : UInt8) (ls : List (List UInt8)) : Lib.join ls [c] = glue c ls := by
  unfold Lib.join
  induction ls with
  | nil => rfl
  | cons x r ih =>
    cases r with
    | nil => simp [glue]
    | cons y t => rw [glue_cons _ _ (by simp), ← ih]; simp [List.intercalate_cons_cons]
theorem glue_len (c : UInt8) : ∀ ls : List (List UInt8), (glue c ls).length ≤ (ls.map List.length).sum + ls.length
  | [] => by simp [glue]
  | x :: r => by
    cases r with
    | nil => simp [glue]
    | cons y t =>
      have := glue_len c (y :: t)
      rw [glue_cons _ _ (by simp)]
      simp only [List.length_append, List.length_cons, List.map_cons, List.sum_cons] at this ⊢
      omega
theorem sum_le {b : Nat} : ∀ {ls : List (List UInt8)}, (∀ x ∈ ls, x.length ≤ b) → (ls.map List.length).sum ≤ ls.length * b
  | [], _ => by simp
  | x :: r, h => by
    have h1 := h x (by simp)
    have h2 := sum_le (ls := r) (fun y hy => h y (List.mem_cons_of_mem _ hy))
    simp only [List.map_cons, List.sum_cons, List.length_cons, Nat.succ_mul]
    omega
theorem glue_bound {c : UInt8} {ls : List (List UInt8)} {b : Nat} (h : ∀ x ∈ ls, x.length ≤ b) : (glue c ls).length ≤ ls.length * (b + 1) := by
  have h1 := glue_len c ls
  have h2 := sum_le h
  rw [Nat.mul_add]; omega
/-- Where the first c stands: the library's word, and its two sides. -/
theorem index_none {c : UInt8} : ∀ {l : List UInt8}, c ∉ l → Lib.index l [c] = -1
  | [], _ => by simp [Lib.index]
  | b :: l, h => by
    have h1 : ¬ c = b := fun e => h (by simp [e])
    have h2 := index_none (l := l) (fun e => h (List.mem_cons_of_mem _ e))
    have hp : ([c] : List UInt8).isPrefixOf (b :: l) = false := by simp [List.isPrefixOf, h1]
    rw [Lib.index, hp, h2]; simp
theorem index_mid {c : UInt8} {a : List UInt8} (h : c ∉ a) (r : List UInt8) : Lib.index (a ++ c :: r) [c] = a.length := by
  induction a with
  | nil => rw [List.nil_append, Lib.index]; simp [List.isPrefixOf]
  | cons b a ih =>
    have h1 : ¬ c = b := fun e => h (by simp [e])
    have h2 := ih (fun e => h (List.mem_cons_of_mem _ e))
    have hp : ([c] : List UInt8).isPrefixOf (b :: (a ++ c :: r)) = false := by simp [List.isPrefixOf, h1]
    rw [List.cons_append, Lib.index, hp, h2]
    have : ¬ ((a.length : Int) = -1) := by omega
    simp [this]
theorem split_first {c : UInt8} : ∀ {l : List UInt8}, c ∈ l → ∃ a r, l = a ++ c :: r ∧ c ∉ a
  | [], h => by simp at h
  | b :: l, h => by
    by_cases e : b = c
    · exact ⟨[], l, by simp [e], by simp⟩
    · obtain ⟨a, r, h1, h2⟩ := split_first (l := l) (by
        rcases List.mem_cons.1 h with h | h
        · exact absurd h.symm e
        · exact h)
      exact ⟨b :: a, r, by simp [h1], by simp [h2, Ne.symm e]⟩
theorem splitK_cut (c : UInt8) : ∀ (k : Nat) (l : List UInt8), l.count c ≤ k → Lib.splitK [c] 0 k l = cut c l
  | 0, l, h => by
    have : c ∉ l := by rw [← List.count_eq_zero (a := c)]; omega
    rw [cut_none this]; rfl
  | k + 1, l, h => by
    by_cases hm : c ∈ l
    · obtain ⟨a, r, rfl, ha⟩ := split_first hm
      have hi := index_mid ha r
      have hk : r.count c ≤ k := by simp at h; omega
      rw [cut_mid ha, Lib.splitK, hi, if_neg (by simp)]
      have e := splitK_cut c k r hk
      simp [e]
    · rw [cut_none hm, Lib.splitK, index_none hm]; rfl
theorem splitB_cut (c : UInt8) (s : ByteArray) : (Lib.splitB ⟨#[c]⟩ 0 (Lib.countB s ⟨#[c]⟩) s).map (·.data.toList) = cut c s.data.toList := by
  rw [Lib.splitB_data]
  refine splitK_cut c _ _ ?_
  show _ ≤ Lib.count s.data.toList [c]
  rw [Lib.count_one]; exact Nat.le_refl _
/-! The document's valid texts. -/
def longB (l : List UInt8) : Bool := decide (65536 < l.length) || decide (4096 < l.count 10)
def lineC (c : UInt8) : Bool := c == 10 || (decide (32 ≤ c.toNat) && decide (c.toNat ≤ 126))
def formB (l : List UInt8) : Bool := l.all lineC && (l.isEmpty || l.getLast? == some 10)
def lineE (l : List UInt8) : Int := if longB l then 4 else if formB l then 0 else 2
def lineL (l : List UInt8) : List (List UInt8) := if lineE l = 0 then (cut 10 l).dropLast else []
theorem lineE_long {l : List UInt8} (h : longB l = true) : lineE l = 4 := by unfold lineE; rw [if_pos h]
theorem lineE_form {l : List UInt8} (h : longB l = false) (h2 : formB l = false) : lineE l = 2 := by unfold lineE; rw [h, h2]; rfl
theorem lineE_ok {l : List UInt8} (h : longB l = false) (h2 : formB l = true) : lineE l = 0 := by unfold lineE; rw [h, h2]; rfl
theorem lineL_no {l : List UInt8} (h : lineE l ≠ 0) : lineL l = [] := by unfold lineL; rw [if_neg h]
theorem lineL_ok {l : List UInt8} (h : lineE l = 0) : lineL l = (cut 10 l).dropLast := by unfold lineL; rw [if_pos h]
theorem lineE_ok_iff {l : List UInt8} : lineE l = 0 ↔ longB l = false ∧ formB l = true := by
  unfold lineE
  cases longB l <;> cases formB l <;> simp
/-- Lines, each followed by a line feed. -/
def ends (ls : List (List UInt8)) : List UInt8 := ls.flatMap (· ++ [10])
theorem ends_snoc (ls : List (List UInt8)) (x : List UInt8) : ends (ls ++ [x]) = ends ls ++ (x ++ [10]) := by simp [ends]
theorem cut_last {c : UInt8} : ∀ {l : List UInt8}, l.getLast? = some c → ∃ xs, cut c l = xs ++ [[]]
  | [], h => by simp at h
  | [b], h => by
    obtain rfl : b = c := by simpa using h
    exact ⟨[[]], by rw [cut_hit]; rfl⟩
  | b :: d :: l, h => by
    obtain ⟨xs, hx⟩ := cut_last (l := d :: l) (by simpa using h)
    by_cases e : b = c
    · subst e; exact ⟨[] :: xs, by rw [cut_hit, hx]; rfl⟩
    · obtain ⟨x, r, e1, e2⟩ := cut_off e (d :: l)
      rw [e2]
      rw [hx] at e1
      cases xs with
      | nil =>
        simp at e1
        obtain ⟨rfl, rfl⟩ := e1
        have hn := cut_len c (d :: l)
        rw [hx] at hn
        have : c ∉ d :: l := by rw [← List.count_eq_zero (a := c)]; simp at hn ⊢; omega
        exact absurd (List.mem_of_getLast? (by simpa using h)) this
      | cons y t =>
        simp at e1
        obtain ⟨rfl, rfl⟩ := e1
        exact ⟨(b :: y) :: t, rfl⟩
theorem glue_end (c : UInt8) : ∀ xs : List (List UInt8), xs ≠ [] → glue c (xs ++ [[]]) = xs.flatMap (· ++ [c])
  | [], h => absurd rfl h
  | x :: r, _ => by
    cases r with
    | nil => simp [glue]
    | cons y t => rw [List.cons_append, glue_cons _ _ (by simp), glue_end c (y :: t) (by simp)]; simp
theorem ends_lines {l : List UInt8} (h : formB l = true) : ends (cut 10 l).dropLast = l := by
  unfold formB at h
  rw [Bool.and_eq_true, Bool.or_eq_true] at h
  rcases h.2 with h2 | h2
  · have : l = [] := by simpa using h2
    subst this; rfl
  · obtain ⟨xs, hx⟩ := cut_last (c := 10) (l := l) (by simpa using h2)
    have hg := glue_cut 10 l
    rw [hx] at hg ⊢
    rw [List.dropLast_concat]
    by_cases hn : xs = []
    · subst hn
      have hl := cut_len 10 l
      rw [hx] at hl
      have : (10 : UInt8) ∉ l := by rw [← List.count_eq_zero (a := (10 : UInt8))]; simp at hl; omega
      exact absurd (List.mem_of_getLast? (by simpa using h2)) this
    · rw [← hg, glue_end 10 xs hn]; rfl
theorem lineC_iff (c : UInt8) : lineC c = true ↔ c.toNat = 10 ∨ (32 ≤ c.toNat ∧ c.toNat ≤ 126) := by
  unfold lineC
  rw [Bool.or_eq_true, beq_iff_eq, Bool.and_eq_true, decide_eq_true_iff, decide_eq_true_iff, ← UInt8.toNat_inj]
  rfl
theorem lineC_no {c : UInt8} (h : ¬ (c.toNat = 10 ∨ (32 ≤ c.toNat ∧ c.toNat ≤ 126))) : lineC c = false := by
  rw [← Bool.not_eq_true, lineC_iff]; exact h
theorem formB_bad {l : List UInt8} {c : UInt8} (h : c ∈ l) (hc : lineC c = false) : formB l = false := by
  have : l.all lineC = false := by rw [List.all_eq_false]; exact ⟨c, h, by simp [hc]⟩
  unfold formB; rw [this]; rfl
theorem formB_nil : formB [] = true := rfl
theorem formB_yes {l : List UInt8} (ha : ∀ c ∈ l, lineC c = true) (h : l.getLast? = some 10) : formB l = true := by
  have : l.all lineC = true := List.all_eq_true.2 ha
  unfold formB; rw [this, h]; simp
theorem formB_end {l : List UInt8} (hn : l ≠ []) (h : l.getLast? ≠ some 10) : formB l = false := by
  have h1 : l.isEmpty = false := by simpa using hn
  have h2 : (l.getLast? == some 10) = false := by simpa using h
  unfold formB; rw [h1, h2]; simp
theorem longB_no {l : List UInt8} (h : longB l = false) : l.length ≤ 65536 ∧ l.count 10 ≤ 4096 := by
  unfold longB at h
  simp at h
  exact h
theorem longB_size {l : List UInt8} (h : 65536 < l.length) : longB l = true := by unfold longB; simp [h]
theorem longB_count {l : List UInt8} (h : 4096 < l.count 10) : longB l = true := by unfold longB; simp [h]
theorem longB_not {l : List UInt8} (h : ¬ 65536 < l.length) (h2 : ¬ 4096 < l.count 10) : longB l = false := by unfold longB; simp [h, h2]
def wrongB (l : List UInt8) : Bool := !l.all lineC
theorem wrongB_bad {l : List UInt8} {c : UInt8} (hc : lineC c = false) : wrongB (l ++ [c]) = true := by simp [wrongB, hc]
theorem wrongB_ok {l : List UInt8} {c : UInt8} (hc : lineC c = true) : wrongB (l ++ [c]) = wrongB l := by simp [wrongB, hc]
theorem formB_wrong {l : List UInt8} (h : wrongB l = true) : formB l = false := by
  unfold wrongB at h
  have : l.all lineC = false := by simpa using h
  unfold formB; rw [this]; rfl
theorem all_of_wrongB {l : List UInt8} (h : wrongB l = false) : ∀ c ∈ l, lineC c = true := by
  unfold wrongB at h
  have : l.all lineC = true := by simpa using h
  exact fun c hc => List.all_eq_true.1 this c hc
theorem cut_snoc_hit (c : UInt8) : ∀ l : List UInt8, cut c (l ++ [c]) = cut c l ++ [[]]
  | [] => cut_hit c []
  | b :: l => by
    by_cases e : b = c
    · subst e; rw [List.cons_append, cut_hit, cut_hit, cut_snoc_hit b l]; rfl
    · obtain ⟨x, r, e1, e2⟩ := cut_off e l
      obtain ⟨y, t, e3, e4⟩ := cut_off e (l ++ [c])
      rw [cut_snoc_hit c l, e1] at e3
      simp at e3
      obtain ⟨rfl, rfl⟩ := e3
      rw [List.cons_append, e4, e2]; rfl
theorem cut_snoc_off {c b : UInt8} (hb : b ≠ c) : ∀ {l : List UInt8} {xs : List (List UInt8)} {x : List UInt8}, cut c l = xs ++ [x] → cut c (l ++ [b]) = xs ++ [x ++ [b]]
  | [], xs, x, h => by
    cases xs with
    | nil => simp [cut] at h; subst h; exact cut_none (by simp [Ne.symm hb])
    | cons y t => simp [cut] at h
  | d :: l, xs, x, h => by
    by_cases e : d = c
    · subst e
      rw [cut_hit] at h
      rw [List.cons_append, cut_hit]
      cases xs with
      | nil => simp at h; exact absurd h.2 (cut_ne _ _)
      | cons y t =>
        simp at h
        obtain ⟨rfl, h⟩ := h
        rw [cut_snoc_off hb h]; rfl
    · obtain ⟨z, r, e1, e2⟩ := cut_off e l
      obtain ⟨z2, r2, e3, e4⟩ := cut_off e (l ++ [b])
      rw [e2] at h
      rw [List.cons_append, e4]
      cases xs with
      | nil =>
        simp at h
        obtain ⟨rfl, rfl⟩ := h
        rw [cut_snoc_off hb (xs := []) (by rw [e1]; rfl)] at e3
        simp at e3
        obtain ⟨rfl, rfl⟩ := e3
        simp
      | cons y t =>
        simp at h
        obtain ⟨rfl, rfl⟩ := h
        rw [cut_snoc_off hb (xs := z :: t) (x := x) (by rw [e1]; rfl)] at e3
        simp at e3
        obtain ⟨rfl, rfl⟩ := e3
        simp
theorem cut_part_le (c : UInt8) : ∀ l : List UInt8, ∀ x ∈ cut c l, x.length ≤ l.length
  | [], x, h => by simp [cut] at h; subst h; simp
  | b :: l, x, h => by
    by_cases e : b = c
    · subst e; rw [cut_hit] at h
      rcases List.mem_cons.1 h with h | h
      · subst h; simp
      · exact Nat.le_trans (cut_part_le b l x h) (by simp)
    · obtain ⟨y, r, e1, e2⟩ := cut_off e l
      have ih := cut_part_le c l
      rw [e1] at ih
      rw [e2] at h
      rcases List.mem_cons.1 h with h | h
      · subst h; have := ih y (by simp); simp; omega
      · exact Nat.le_trans (ih x (List.mem_cons_of_mem _ h)) (by simp)
end Go.Proofs.Ytgnjbbohphoojaa.Words
/- Plain words on addresses of four bytes and their texts: no program. -/
namespace Go.Proofs.Ytgnjbbohphoojaa.V4
open Dec Words
/-- The four parts of an address's text, the highest first. -/
def parts4 (n : Nat) : List (List UInt8) := [text ((n / 16777216 % 256 : Nat) : Int), text ((n / 65536 % 256 : Nat) : Int), text ((n / 256 % 256 : Nat) : Int), text ((n % 256 : Nat) : Int)]
def text4 (n : Nat) : List UInt8 := glue 46 (parts4 n)
/-- The number that parts make. -/
def val4 (ps : List (List UInt8)) : Nat := ps.foldl (fun n p => 256 * n + (parN p 255).toNat) 0
def ok4 (l : List UInt8) : Bool := decide ((cut 46 l).length = 4) && (cut 46 l).all fun p => parB p 255
def num4 (l : List UInt8) : Nat := if ok4 l then val4 (cut 46 l) else 0
theorem val4_snoc (ps : List (List UInt8)) (p : List UInt8) : val4 (ps ++ [p]) = 256 * val4 ps + (parN p 255).toNat := by simp [val4, List.foldl_append]
theorem parN255 (p : List UInt8) : 0 ≤ parN p 255 ∧ parN p 255 ≤ 255 := by
  cases e : parB p 255
  · rw [parN_no e]; omega
  · have := ((parB_iff p 255).1 e).2
    rw [parN_of e]; omega
theorem val4_lt (ps : List (List UInt8)) : val4 ps < 256 ^ ps.length := by
  induction ps using snocRec with
  | nil => simp [val4]
  | snoc ps p ih =>
    have := parN255 p
    rw [val4_snoc, List.length_append, List.length_singleton, Nat.pow_succ]; omega
theorem val4_take_lt (ps : List (List UInt8)) (k : Nat) (h : k ≤ 3) : val4 (ps.take k) < 16777216 := by
  have h1 := val4_lt (ps.take k)
  have h2 : 256 ^ (ps.take k).length ≤ 256 ^ 3 := Nat.pow_le_pow_right (by omega) (Nat.le_trans (List.length_take_le _ _) h)
  have h3 : (256 : Nat) ^ 3 = 16777216 := by decide
  omega
theorem val4_four {ps : List (List UInt8)} (h : ps.length = 4) : val4 ps < 4294967296 := by
  have h1 := val4_lt ps
  have h3 : (256 : Nat) ^ 4 = 4294967296 := by decide
  rw [h, h3] at h1; exact h1
theorem val4_list (a b c d : List UInt8) : val4 [a, b, c, d] = 256 * (256 * (256 * (parN a 255).toNat + (parN b 255).toNat) + (parN c 255).toNat) + (parN d 255).toNat := by
  simp [val4]
theorem ok4_iff (l : List UInt8) : ok4 l = true ↔ (cut 46 l).length = 4 ∧ ∀ p ∈ cut 46 l, parB p 255 = true := by unfold ok4; simp
theorem num4_of {l : List UInt8} (h : ok4 l = true) : num4 l = val4 (cut 46 l) := by unfold num4; rw [if_pos h]
theorem num4_no {l : List UInt8} (h : ok4 l = false) : num4 l = 0 := by unfold num4; rw [h]; rfl
theorem num4_lt (l : List UInt8) : num4 l < 4294967296 := by
  cases e : ok4 l
  · rw [num4_no e]; omega
  · rw [num4_of e]; exact val4_four ((ok4_iff l).1 e).1
theorem ok4_len {l : List UInt8} (h : (cut 46 l).length ≠ 4) : ok4 l = false := by
  cases e : ok4 l
  · rfl
  · exact absurd ((ok4_iff l).1 e).1 h
theorem ok4_bad {l : List UInt8} (k : Nat) (hk : k < (cut 46 l).length) (h : parB (cut 46 l)[k] 255 = false) : ok4 l = false := by
  cases e : ok4 l
  · rfl
  · rw [((ok4_iff l).1 e).2 _ (List.getElem_mem hk)] at h; cases h
theorem text_digit {n : Nat} {c : UInt8} (h : c ∈ text (n : Int)) : dv c < 10 := by
  unfold text at h
  rw [if_neg (by omega), Int.natAbs_natCast] at h
  exact digs_all (by omega) (by omega) n c h
theorem text_no46 (n : Nat) : (46 : UInt8) ∉ text (n : Int) := fun h => absurd (text_digit h) (by decide)
theorem text_byte_len {n : Nat} (h : n < 256) : (text (n : Int)).length ≤ 3 := by
  unfold text
  rw [if_neg (by omega), Int.natAbs_natCast]
  exact digs_len (b := 10) (by omega) 2 n (by omega)
theorem parts4_no46 (n : Nat) : ∀ x ∈ parts4 n, (46 : UInt8) ∉ x := by
  intro x hx
  simp only [parts4, List.mem_cons, List.not_mem_nil, or_false] at hx
  rcases hx with rfl | rfl | rfl | rfl <;> exact text_no46 _
theorem cut_text4 (n : Nat) : cut 46 (text4 n) = parts4 n := cut_glue (by simp [parts4]) (parts4_no46 n)
theorem text4_len (n : Nat) : (text4 n).length ≤ 15 := by
  have h1 := text_byte_len (n := n / 16777216 % 256) (by omega)
  have h2 := text_byte_len (n := n / 65536 % 256) (by omega)
  have h3 := text_byte_len (n := n / 256 % 256) (by omega)
  have h4 := text_byte_len (n := n % 256) (by omega)
  simp only [text4, parts4, glue, List.length_append, List.length_cons]
  omega
theorem parB_byte {n : Nat} (h : n < 256) : parB (text (n : Int)) 255 = true := by rw [parB_text]; simp; omega
theorem parN_byte {n : Nat} (h : n < 256) : (parN (text (n : Int)) 255).toNat = n := by rw [parN_text (parB_byte h)]; omega
theorem ok4_text4 (n : Nat) : ok4 (text4 n) = true := by
  rw [ok4_iff, cut_text4]
  refine ⟨rfl, fun p hp => ?_⟩
  simp only [parts4, List.mem_cons, List.not_mem_nil, or_false] at hp
  rcases hp with rfl | rfl | rfl | rfl <;> exact parB_byte (Nat.mod_lt _ (by omega))
theorem num4_text4 {n : Nat} (h : n < 4294967296) : num4 (text4 n) = n := by
  rw [num4_of (ok4_text4 n), cut_text4, parts4, val4_list]
  rw [parN_byte (Nat.mod_lt _ (by omega)), parN_byte (Nat.mod_lt _ (by omega)), parN_byte (Nat.mod_lt _ (by omega)), parN_byte (Nat.mod_lt _ (by omega))]
  omega
theorem text_back {p : List UInt8} (h : parB p 255 = true) : text (((parN p 255).toNat : Nat) : Int) = p := by
  rw [Int.toNat_of_nonneg (parN255 p).1]; exact text_parN h
theorem text4_num4 {l : List UInt8} (h : ok4 l = true) : text4 (num4 l) = l := by
  obtain ⟨h1, h2⟩ := (ok4_iff l).1 h
  rw [num4_of h]
  match e : cut 46 l, h1 with
  | [a, b, c, d], _ =>
    rw [e] at h2
    have ha := parN255 a
    have hb := parN255 b
    have hc := parN255 c
    have hd := parN255 d
    have e1 : (256 * (256 * (256 * (parN a 255).toNat + (parN b 255).toNat) + (parN c 255).toNat) + (parN d 255).toNat) / 16777216 % 256 = (parN a 255).toNat := by omega
    have e2 : (256 * (256 * (256 * (parN a 255).toNat + (parN b 255).toNat) + (parN c 255).toNat) + (parN d 255).toNat) / 65536 % 256 = (parN b 255).toNat := by omega
    have e3 : (256 * (256 * (256 * (parN a 255).toNat + (parN b 255).toNat) + (parN c 255).toNat) + (parN d 255).toNat) / 256 % 256 = (parN c 255).toNat := by omega
    have e4 : (256 * (256 * (256 * (parN a 255).toNat + (parN b 255).toNat) + (parN c 255).toNat) + (parN d 255).toNat) % 256 = (parN d 255).toNat := by omega
    rw [val4_list, text4, parts4, e1, e2, e3, e4, text_back (h2 a (by simp)), text_back (h2 b (by simp)), text_back (h2 c (by simp)), text_back (h2 d (by simp)), ← e, glue_cut]
/-- The document's way: the number that all parts make, if its text is the text. -/
theorem ok4_same {l : List UInt8} {m : Nat} (hm : m < 4294967296) (h : text4 m = l) : ok4 l = true ∧ num4 l = m := by
  subst h; exact ⟨ok4_text4 m, num4_text4 hm⟩
theorem ok4_other {l : List UInt8} {m : Nat} (hm : m = val4 (cut 46 l) % 4294967296) (h : text4 m ≠ l) : ok4 l = false := by
  cases e : ok4 l
  · rfl
  · refine absurd ?_ h
    rw [hm, Nat.mod_eq_of_lt (val4_four ((ok4_iff l).1 e).1), ← num4_of e]
    exact text4_num4 e
theorem ok4_long {l : List UInt8} (h : 15 < l.length) : ok4 l = false := by
  cases e : ok4 l
  · rfl
  · have := text4_len (num4 l)
    rw [text4_num4 e] at this; omega
/-- A shift and an or are a sum. -/
theorem shl_or {n b : Nat} (hb : b < 256) : (n * 256) ||| b = 256 * n + b := by
  have h := Nat.two_pow_add_eq_or_of_lt (i := 8) (b := b) (by omega) n
  rw [Nat.mul_comm n 256]
  simpa using h.symm
end Go.Proofs.Ytgnjbbohphoojaa.V4
/- Texts of addresses of eight groups, in plain words. -/
namespace Go.Proofs.Ytgnjbbohphoojaa.V6
open Dec Words V4
/-- What stands between colons; none of an empty text. -/
def parts (l : List UInt8) : List (List UInt8) := if l = [] then [] else cut 58 l
/-- Do two colons stand at i? -/
def two (l : List UInt8) (i : Nat) : Prop := l[i]? = some 58 ∧ l[i + 1]? = some 58
instance (l : List UInt8) (i : Nat) : Decidable (two l i) := by unfold two; infer_instance
/-- What stands ahead of the first two colons, and behind them. -/
def gap : List UInt8 → Option (List UInt8 × List UInt8)
  | [] => none
  | b :: l => if two (b :: l) 0 then some ([], l.drop 1) else (gap l).map fun p => (b :: p.1, p.2)
theorem two_cons (b : UInt8) (l : List UInt8) (i : Nat) : two (b :: l) (i + 1) ↔ two l i := by unfold two; simp
theorem gap_none : ∀ {l : List UInt8}, gap l = none ↔ ∀ i, ¬ two l i
  | [] => by simp [gap, two]
  | b :: l => by
    have ih := gap_none (l := l)
    rw [gap]
    by_cases h : two (b :: l) 0
    · rw [if_pos h]; simp; exact ⟨0, h⟩
    · rw [if_neg h, Option.map_eq_none_iff, ih]
      constructor
      · intro h2 i
        cases i with
        | zero => exact h
        | succ i => rw [two_cons]; exact h2 i
      · intro h2 i
        have := h2 (i + 1)
        rwa [two_cons] at this
theorem gap_some : ∀ {l b a : List UInt8}, gap l = some (b, a) ↔ l = b ++ 58 :: 58 :: a ∧ ∀ i, i < b.length → ¬ two l i
  | [], b, a => by simp [gap]
  | c :: l, b, a => by
    have ih := fun b => gap_some (l := l) (b := b) (a := a)
    rw [gap]
    by_cases h : two (c :: l) 0
    · rw [if_pos h]
      have h' := h
      unfold two at h'
      simp at h'
      obtain ⟨rfl, h2⟩ := h'
      cases l with
      | nil => simp at h2
      | cons d l =>
        simp at h2; subst h2
        simp
        constructor
        · rintro ⟨rfl, rfl⟩; simp
        · rintro ⟨e, h3⟩
          cases b with
          | nil => simp at e; exact ⟨rfl, e⟩
          | cons x b => exact absurd h (h3 0 (by simp))
    · rw [if_neg h]
      simp only [Option.map_eq_some_iff, Prod.mk.injEq, Prod.exists]
      constructor
      · rintro ⟨x, y, hx, rfl, rfl⟩
        obtain ⟨e, h3⟩ := (ih x).1 hx
        refine ⟨by rw [e]; rfl, fun i hi => ?_⟩
        cases i with
        | zero => exact h
        | succ i => rw [two_cons]; exact h3 i (by simpa using hi)
      · rintro ⟨e, h3⟩
        cases b with
        | nil => simp at e; exact absurd (by rw [e.1, e.2]; simp [two]) h
        | cons x b =>
          simp at e
          obtain ⟨rfl, e⟩ := e
          refine ⟨b, a, (ih b).2 ⟨e, fun i hi => ?_⟩, rfl, rfl⟩
          have := h3 (i + 1) (by simpa using hi)
          rwa [two_cons] at this
theorem gap_swap {b a : List UInt8} (a' : List UInt8) (h : gap (b ++ 58 :: 58 :: a) = some (b, a)) : gap (b ++ 58 :: 58 :: a') = some (b, a') := by
  rw [gap_some] at h ⊢
  refine ⟨rfl, fun i hi => ?_⟩
  have := h.2 i hi
  unfold two at this ⊢
  rw [List.getElem?_append_left hi] at this ⊢
  intro h2
  refine this ⟨h2.1, ?_⟩
  by_cases e : i + 1 < b.length
  · rw [List.getElem?_append_left e] at h2 ⊢; exact h2.2
  · have : i + 1 = b.length := by omega
    rw [this, List.getElem?_append_right (Nat.le_refl _)]; simp
/-! The last part, where it is an address of four bytes, as two groups. -/
def hi4 (x : List UInt8) : List UInt8 := hex ((num4 x / 65536 : Nat) : Int)
def lo4 (x : List UInt8) : List UInt8 := hex ((num4 x % 65536 : Nat) : Int)
/-- The last part. -/
def lastP (l : List UInt8) : List UInt8 := (cut 58 l).getLast (cut_ne 58 l)
def spell : List (List UInt8) → List (List UInt8)
  | [] => []
  | [x] => if ok4 x then [hi4 x, lo4 x] else [x]
  | x :: y :: r => x :: spell (y :: r)
def spelled (l : List UInt8) : List UInt8 := if ok4 (lastP l) then l.take (l.length - (lastP l).length) ++ (hi4 (lastP l) ++ 58 :: lo4 (lastP l)) else l
theorem spell_snoc (ps : List (List UInt8)) (x : List UInt8) : spell (ps ++ [x]) = ps ++ spell [x] := by
  induction ps with
  | nil => rfl
  | cons y r ih =>
    cases r with
    | nil => rfl
    | cons z t =>
      show y :: spell (z :: t ++ [x]) = _
      rw [ih]; rfl
theorem spell_append (ps : List (List UInt8)) {qs : List (List UInt8)} (h : qs ≠ []) : spell (ps ++ qs) = ps ++ spell qs := by
  obtain ⟨q, x, rfl⟩ : ∃ q x, qs = q ++ [x] := ⟨qs.dropLast, qs.getLast h, (List.dropLast_concat_getLast h).symm⟩
  rw [← List.append_assoc, spell_snoc, spell_snoc, List.append_assoc]
theorem cut_two (c : UInt8) : ∀ u v : List UInt8, cut c (u ++ c :: v) = cut c u ++ cut c v
  | [], v => cut_hit c v
  | b :: u, v => by
    by_cases e : b = c
    · subst e; rw [List.cons_append, cut_hit, cut_hit, cut_two b u v]; rfl
    · obtain ⟨x, r, e1, e2⟩ := cut_off e u
      obtain ⟨y, t, e3, e4⟩ := cut_off e (u ++ c :: v)
      rw [cut_two c u v, e1] at e3
      simp at e3
      obtain ⟨rfl, rfl⟩ := e3
      rw [List.cons_append, e4, e2]; rfl
/-- A text, its last part set apart. -/
theorem last_split (l : List UInt8) : ∃ ps, cut 58 l = ps ++ [lastP l] ∧ (58 : UInt8) ∉ lastP l ∧ ((ps = [] ∧ l = lastP l) ∨ (ps ≠ [] ∧ l = glue 58 ps ++ 58 :: lastP l)) := by
  have e : cut 58 l = (cut 58 l).dropLast ++ [lastP l] := (List.dropLast_concat_getLast (cut_ne 58 l)).symm
  refine ⟨(cut 58 l).dropLast, e, ?_, ?_⟩
  · exact cut_parts 58 l _ (List.getLast_mem _)
  · have g := glue_cut 58 l
    by_cases h : (cut 58 l).dropLast = []
    · left
      rw [e, h] at g
      exact ⟨h, g.symm⟩
    · right
      rw [e, glue_snoc 58 _ h] at g
      exact ⟨h, g.symm⟩
theorem lastP_le (l : List UInt8) : (lastP l).length ≤ l.length := cut_part_le 58 l _ (List.getLast_mem _)
theorem lastP_two (u v : List UInt8) : lastP (u ++ 58 :: v) = lastP v := by
  unfold lastP
  have h := cut_ne 58 v
  simp only [cut_two]
  rw [List.getLast_append_of_ne_nil _ h]
theorem hex_ne {n : Int} (h0 : 0 ≤ n) (h1 : n ≤ 65535) : hex n ≠ [] := by
  unfold hex; rw [if_neg (by omega)]; exact digs_ne _ _
theorem dv58 : dv 58 = 16 := by decide
theorem hex_no58 (n : Int) : (58 : UInt8) ∉ hex n := by
  unfold hex
  by_cases h : n < 0 ∨ 65535 < n
  · rw [if_pos h]; simp
  · rw [if_neg h]
    intro h2
    have := digs_all (b := 16) (by omega) (by omega) _ _ h2
    rw [dv58] at this; omega
theorem hi4_ok (x : List UInt8) : hi4 x ≠ [] ∧ (58 : UInt8) ∉ hi4 x := ⟨hex_ne (by omega) (by have := num4_lt x; omega), hex_no58 _⟩
theorem lo4_ok (x : List UInt8) : lo4 x ≠ [] ∧ (58 : UInt8) ∉ lo4 x := ⟨hex_ne (by omega) (by omega), hex_no58 _⟩
theorem spelled_two (u v : List UInt8) : spelled (u ++ 58 :: v) = u ++ 58 :: spelled v := by
  unfold spelled
  rw [lastP_two]
  have h := lastP_le v
  by_cases e : ok4 (lastP v) = true
  · rw [if_pos e, if_pos e]
    have e2 : (u ++ 58 :: v).length - (lastP v).length = u.length + (1 + (v.length - (lastP v).length)) := by simp; omega
    rw [e2, List.take_append, List.take_of_length_le (by omega), Nat.add_sub_cancel_left, Nat.add_comm 1, List.take_succ_cons]
    simp
  · rw [if_neg e, if_neg e]
theorem cut_spelled (l : List UInt8) : cut 58 (spelled l) = spell (cut 58 l) := by
  obtain ⟨ps, e1, h1, h2⟩ := last_split l
  rw [e1, spell_snoc]
  unfold spelled
  by_cases e : ok4 (lastP l) = true
  · have e3 : spell [lastP l] = [hi4 (lastP l), lo4 (lastP l)] := by rw [spell, if_pos e]
    rw [if_pos e, e3]
    have hA : cut 58 (hi4 (lastP l) ++ 58 :: lo4 (lastP l)) = [hi4 (lastP l), lo4 (lastP l)] := by
      rw [cut_two, cut_none (hi4_ok _).2, cut_none (lo4_ok _).2]; rfl
    rcases h2 with ⟨rfl, h2⟩ | ⟨hp, h2⟩
    · have : l.length - (lastP l).length = 0 := by rw [← h2]; omega
      rw [this]; simpa using hA
    · have h3 : l.take (l.length - (lastP l).length) = glue 58 ps ++ [58] := by
        conv => lhs; rw [h2]
        have : (glue 58 ps ++ 58 :: lastP l).length - (lastP (glue 58 ps ++ 58 :: lastP l)).length = (glue 58 ps ++ [58]).length := by
          rw [← h2]
          have := congrArg List.length h2
          simp at this ⊢; omega
        rw [this, show glue 58 ps ++ 58 :: lastP l = (glue 58 ps ++ [58]) ++ lastP l by simp, List.take_left]
      rw [h3, List.append_assoc]
      show cut 58 (glue 58 ps ++ 58 :: (hi4 (lastP l) ++ 58 :: lo4 (lastP l))) = _
      rw [cut_two, hA]
      congr 1
      apply cut_glue hp
      intro x hx
      exact cut_parts 58 l x (by rw [e1]; simp [hx])
  · have e3 : spell [lastP l] = [lastP l] := by rw [spell, if_neg e]
    rw [if_neg e, e3, e1]
theorem ok4_ne {x : List UInt8} (h : ok4 x = true) : x ≠ [] := by rintro rfl; revert h; decide
theorem spelled_nil : spelled [] = [] := by decide +kernel
theorem spelled_eq_nil {l : List UInt8} : spelled l = [] ↔ l = [] := by
  constructor
  · intro h
    unfold spelled at h
    by_cases e : ok4 (lastP l) = true
    · rw [if_pos e] at h; simp at h
    · rwa [if_neg e] at h
  · rintro rfl; exact spelled_nil
theorem parts_spelled (l : List UInt8) : parts (spelled l) = spell (parts l) := by
  unfold parts
  by_cases h : l = []
  · rw [if_pos h, if_pos (spelled_eq_nil.2 h)]; rfl
  · rw [if_neg h, if_neg (fun e => h (spelled_eq_nil.1 e)), cut_spelled]
theorem two_last {l : List UInt8} {i : Nat} (h : two (spelled l) i) : two l i := by
  obtain ⟨ps, e1, h1, h2⟩ := last_split l
  unfold spelled at h
  by_cases e : ok4 (lastP l) = true
  · rw [if_pos e] at h
    obtain ⟨n1, n2⟩ := hi4_ok (lastP l)
    obtain ⟨n3, n4⟩ := lo4_ok (lastP l)
    revert h
    generalize hi4 (lastP l) = a at *
    generalize lo4 (lastP l) = b at *
    have hl := lastP_le l
    unfold two
    have hlen : (l.take (l.length - (lastP l).length)).length = l.length - (lastP l).length := by rw [List.length_take]; omega
    rintro ⟨h3, h4⟩
    have ha : ∀ k : Nat, a[k]? ≠ some 58 := fun k e => n2 (List.mem_of_getElem? e)
    have hb : ∀ k : Nat, b[k]? ≠ some 58 := fun k e => n4 (List.mem_of_getElem? e)
    have ha0 : 0 < a.length := List.length_pos_iff.2 n1
    by_cases c1 : i + 1 < l.length - (lastP l).length
    · rw [List.getElem?_append_left (by omega), List.getElem?_take_of_lt (by omega)] at h3 h4
      exact ⟨h3, h4⟩
    · exfalso
      rw [List.getElem?_append_right (by omega), hlen] at h4
      by_cases c2 : i + 1 - (l.length - (lastP l).length) < a.length
      · rw [List.getElem?_append_left c2] at h4; exact ha _ h4
      · rw [List.getElem?_append_right (by omega)] at h4
        by_cases c3 : i + 1 - (l.length - (lastP l).length) = a.length
        · rw [List.getElem?_append_right (by omega), hlen, List.getElem?_append_left (by omega)] at h3
          exact ha _ h3
        · obtain ⟨k, hk⟩ : ∃ k, i + 1 - (l.length - (lastP l).length) - a.length = k + 1 := ⟨i + 1 - (l.length - (lastP l).length) - a.length - 1, by omega⟩
          rw [hk, List.getElem?_cons_succ] at h4
          exact hb _ h4
  · rwa [if_neg e] at h
theorem gap_spelled_none {l : List UInt8} (h : gap l = none) : gap (spelled l) = none := by
  rw [gap_none] at h ⊢
  exact fun i h2 => h i (two_last h2)
theorem gap_spelled_some {l b a : List UInt8} (h : gap l = some (b, a)) : gap (spelled l) = some (b, spelled a) := by
  have e := (gap_some.1 h).1
  subst e
  rw [show b ++ 58 :: 58 :: a = (b ++ [58]) ++ 58 :: a by simp, spelled_two, List.append_assoc]
  exact gap_swap _ h
/-! The groups that a text tells. -/
def allHex (ps : List (List UInt8)) : Bool := ps.all hexB
def nums (ps : List (List UInt8)) : List Int := ps.map hexN
def val (gs : List Int) : Nat := gs.foldl (fun n g => (65536 * n + g.toNat) % 18446744073709551616) 0
/-- The eight groups; none if the text is no address. -/
def groups (l : List UInt8) : Option (List Int) :=
  match gap l with
  | none => if allHex (spell (parts l)) = true ∧ (spell (parts l)).length = 8 then some (nums (spell (parts l))) else none
  | some (b, a) => if allHex (parts b) = true ∧ allHex (spell (parts a)) = true ∧ (parts b).length + (spell (parts a)).length < 8 then
      some (nums (parts b) ++ List.replicate (8 - (parts b).length - (spell (parts a)).length) 0 ++ nums (spell (parts a))) else none
def ok6 (l : List UInt8) : Bool := (groups l).isSome
def hi6 (l : List UInt8) : Nat := match groups l with | some g => val (g.take 4) | none => 0
def lo6 (l : List UInt8) : Nat := match groups l with | some g => val (g.drop 4) | none => 0
theorem val_lt (gs : List Int) : val gs < 18446744073709551616 := by
  revert gs
  refine snocRec (by decide) fun l c _ => ?_
  simp [val, List.foldl_append]; omega
theorem val_snoc (gs : List Int) (g : Int) : val (gs ++ [g]) = (65536 * val gs + g.toNat) % 18446744073709551616 := by simp [val, List.foldl_append]
theorem hi6_lt (l : List UInt8) : hi6 l < 18446744073709551616 := by unfold hi6; split; exact val_lt _; omega
theorem lo6_lt (l : List UInt8) : lo6 l < 18446744073709551616 := by unfold lo6; split; exact val_lt _; omega
theorem nums_bd {ps : List (List UInt8)} : ∀ g ∈ nums ps, 0 ≤ g ∧ g ≤ 65535 := by
  intro g hg
  unfold nums at hg
  obtain ⟨x, _, rfl⟩ := List.mem_map.1 hg
  exact hexN_bd x
theorem groups_len {l : List UInt8} {g : List Int} (h : groups l = some g) : g.length = 8 := by
  unfold groups at h
  split at h
  · split at h
    · rename_i h2
      cases h
      unfold nums; rw [List.length_map]; exact h2.2
    · cases h
  · split at h
    · rename_i h2
      cases h
      simp [nums]; omega
    · cases h
theorem groups_bd {l : List UInt8} {g : List Int} (h : groups l = some g) : ∀ x ∈ g, 0 ≤ x ∧ x ≤ 65535 := by
  unfold groups at h
  split at h
  · split at h
    · cases h; exact nums_bd
    · cases h
  · split at h
    · cases h
      intro x hx
      rcases List.mem_append.1 hx with hx | hx
      · rcases List.mem_append.1 hx with hx | hx
        · exact nums_bd x hx
        · have := List.eq_of_mem_replicate hx; omega
      · exact nums_bd x hx
    · cases h
end Go.Proofs.Ytgnjbbohphoojaa.V6
/- Addresses of eight groups: their texts, and what is read of them; in plain words. -/
namespace Go.Proofs.Ytgnjbbohphoojaa.V6
open Dec Words V4
theorem cut46_hex {x : List UInt8} (h : hexB x = true) : (46 : UInt8) ∉ x := by
  intro hm
  have := ((hexB_iff x).1 h).2.2 46 hm
  exact absurd this (by decide)
theorem hexB_not_ok4 {x : List UInt8} (h : hexB x = true) : ok4 x = false := by
  refine ok4_len ?_
  have := cut_one.2 (cut46_hex h)
  omega
/-! What the document's way reads of parts. -/
def fullB (l : List (List UInt8)) : Bool := allHex (spell l) && decide ((spell l).length = 8)
theorem spell_len (l : List (List UInt8)) : l.length ≤ (spell l).length ∧ (spell l).length ≤ l.length + 1 := by
  rcases List.eq_nil_or_concat l with rfl | ⟨q, x, rfl⟩
  · simp [spell]
  · rw [List.concat_eq_append, spell_snoc]
    rw [spell]
    split <;> simp
theorem spell_off {q : List (List UInt8)} {x : List UInt8} (h : ok4 x = false) : spell (q ++ [x]) = q ++ [x] := by
  rw [spell_snoc, spell, if_neg (by simp [h])]
theorem spell_on {q : List (List UInt8)} {x : List UInt8} (h : ok4 x = true) : spell (q ++ [x]) = q ++ [hi4 x, lo4 x] := by
  rw [spell_snoc, spell, if_pos h]
theorem hexB_hi4 (x : List UInt8) : hexB (hi4 x) = true := by
  have := num4_lt x
  unfold hi4; rw [hexB_hex]; simp; omega
theorem hexB_lo4 (x : List UInt8) : hexB (lo4 x) = true := by
  unfold lo4; rw [hexB_hex]; simp; omega
theorem hexN_hi4 (x : List UInt8) : hexN (hi4 x) = ((num4 x / 65536 : Nat) : Int) := hexN_hex (hexB_hi4 x)
theorem hexN_lo4 (x : List UInt8) : hexN (lo4 x) = ((num4 x % 65536 : Nat) : Int) := hexN_hex (hexB_lo4 x)
theorem allHex_append (a b : List (List UInt8)) : allHex (a ++ b) = (allHex a && allHex b) := by simp [allHex]
theorem nums_append (a b : List (List UInt8)) : nums (a ++ b) = nums a ++ nums b := by simp [nums]
/-- A list with zeros in its midst. -/
def withZ (a b : List (List UInt8)) (k : Nat) : List (List UInt8) := a ++ (List.replicate k [48] ++ b)
theorem ok4_zero : ok4 [48] = false := by decide +kernel
theorem spell_withZ (a b : List (List UInt8)) {k : Nat} (h : 1 ≤ k) : spell (withZ a b k) = a ++ (List.replicate k [48] ++ spell b) := by
  unfold withZ
  obtain ⟨j, rfl⟩ : ∃ j, k = j + 1 := ⟨k - 1, by omega⟩
  by_cases hb : b = []
  · subst hb
    rw [List.replicate_succ', List.append_nil, ← List.append_assoc, spell_off ok4_zero]
    simp [spell]
  · rw [← List.append_assoc, spell_append _ hb, List.append_assoc]
theorem allHex_zeros (k : Nat) : allHex (List.replicate k [48]) = true := by
  unfold allHex
  rw [List.all_eq_true]
  intro x hx
  rw [List.eq_of_mem_replicate hx]; decide
theorem nums_zeros (k : Nat) : nums (List.replicate k [48]) = List.replicate k 0 := by
  unfold nums
  rw [List.map_replicate]; rfl
theorem fullB_withZ (a b : List (List UInt8)) {k : Nat} (h : 1 ≤ k) : fullB (withZ a b k) = true ↔ allHex a = true ∧ allHex (spell b) = true ∧ a.length + k + (spell b).length = 8 := by
  unfold fullB
  rw [spell_withZ a b h, allHex_append, allHex_append, allHex_zeros]
  simp [and_assoc]
  intro _ _
  omega
theorem nums_withZ (a b : List (List UInt8)) {k : Nat} (h : 1 ≤ k) : nums (spell (withZ a b k)) = nums a ++ List.replicate k 0 ++ nums (spell b) := by
  rw [spell_withZ a b h, nums_append, nums_append, nums_zeros, List.append_assoc]
theorem groups_whole {l : List UInt8} (h : gap l = none) : groups l = if fullB (parts l) = true then some (nums (spell (parts l))) else none := by
  unfold groups fullB
  rw [h]
  simp
theorem groups_gap {l b a : List UInt8} (h : gap l = some (b, a)) {k : Nat} (hk : 1 ≤ k) (hf : fullB (withZ (parts b) (parts a) k) = true) : groups l = some (nums (spell (withZ (parts b) (parts a) k))) := by
  have h2 := (fullB_withZ _ _ hk).1 hf
  unfold groups
  rw [h]
  simp only []
  rw [if_pos ⟨h2.1, h2.2.1, by omega⟩, nums_withZ _ _ hk]
  congr 4; omega
theorem groups_nogap {l b a : List UInt8} (h : gap l = some (b, a)) (hf : ∀ k, 1 ≤ k → k ≤ 8 → fullB (withZ (parts b) (parts a) k) = false) : groups l = none := by
  unfold groups
  rw [h]
  simp only []
  rw [if_neg]
  rintro ⟨h1, h2, h3⟩
  have := hf (8 - (parts b).length - (spell (parts a)).length) (by omega) (by omega)
  rw [← Bool.not_eq_true, fullB_withZ _ _ (by omega)] at this
  exact this ⟨h1, h2, by omega⟩
theorem groups_bad {l b a : List UInt8} {x : List UInt8} (h : gap l = some (b, a)) (hx : x ∈ parts b) (hb : hexB x = false) : groups l = none := by
  unfold groups
  rw [h]
  simp only []
  rw [if_neg]
  rintro ⟨h1, _⟩
  unfold allHex at h1
  rw [List.all_eq_true] at h1
  have := h1 x hx
  rw [hb] at this; cases this
/-! No text of an address is long. -/
theorem glue_sum {c : UInt8} : ∀ {ps : List (List UInt8)}, (∀ x ∈ ps, x.length ≤ 4) → (glue c ps).length ≤ 5 * ps.length := by
  intro ps h
  have := glue_bound (c := c) (b := 4) h
  omega
theorem spell_sum {l : List UInt8} (h : allHex (spell (parts l)) = true) : l.length ≤ 5 * (spell (parts l)).length + 15 := by
  unfold parts at h ⊢
  by_cases hl : l = []
  · subst hl; simp
  · rw [if_neg hl] at h ⊢
    obtain ⟨ps, e1, h1, h2⟩ := last_split l
    rw [e1, spell_snoc, allHex_append, Bool.and_eq_true] at h
    have hps : ∀ x ∈ ps, x.length ≤ 4 := by
      intro x hx
      have := List.all_eq_true.1 h.1 x hx
      exact ((hexB_iff x).1 this).2.1
    have hg := glue_sum (c := 58) hps
    have hx : (lastP l).length ≤ 15 := by
      cases e : ok4 (lastP l)
      · have h3 := h.2
        rw [spell, if_neg (by simp [e])] at h3
        have := List.all_eq_true.1 h3 (lastP l) (by simp)
        have := ((hexB_iff _).1 this).2.1
        omega
      · rcases Nat.lt_or_ge 15 (lastP l).length with h4 | h4
        · rw [ok4_long h4] at e; cases e
        · exact h4
    have hs := (spell_len (cut 58 l)).1
    rw [e1] at hs ⊢
    simp at hs
    rcases h2 with ⟨_, h2⟩ | ⟨_, h2⟩
    · have := congrArg List.length h2; omega
    · have := congrArg List.length h2
      simp at this
      omega
theorem parts_sum {l : List UInt8} (h : allHex (parts l) = true) : l.length ≤ 5 * (parts l).length := by
  unfold parts at h ⊢
  by_cases hl : l = []
  · subst hl; simp
  · rw [if_neg hl] at h ⊢
    have := glue_sum (c := 58) (ps := cut 58 l) (fun x hx => ((hexB_iff x).1 (List.all_eq_true.1 h x hx)).2.1)
    rwa [glue_cut] at this
theorem groups_long {l : List UInt8} (h : 60 < l.length) : groups l = none := by
  unfold groups
  cases hg : gap l with
  | none =>
    simp only []
    rw [if_neg]
    rintro ⟨h1, h2⟩
    have := spell_sum h1
    omega
  | some p =>
    obtain ⟨b, a⟩ := p
    simp only []
    rw [if_neg]
    rintro ⟨h1, h2, h3⟩
    have e := congrArg List.length (gap_some.1 hg).1
    have := spell_sum h2
    have := parts_sum h1
    simp at e
    omega
/-! The code's way. -/
theorem groups_code {l : List UInt8} : groups l = match gap (spelled l) with
    | none => if allHex (parts (spelled l)) = true ∧ (parts (spelled l)).length = 8 then some (nums (parts (spelled l))) else none
    | some (b, a) => if allHex (parts b) = true ∧ allHex (parts a) = true ∧ (parts b).length + (parts a).length < 8 then
      some (nums (parts b) ++ List.replicate (8 - (parts b).length - (parts a).length) 0 ++ nums (parts a)) else none := by
  unfold groups
  cases hg : gap l with
  | none => rw [gap_spelled_none hg]; simp only []; rw [parts_spelled]
  | some p => obtain ⟨b, a⟩ := p; rw [gap_spelled_some hg]; simp only []; rw [parts_spelled]
/-! Texts. -/
def gr (hi lo : Nat) : List Int := [((hi / 281474976710656 % 65536 : Nat) : Int), ((hi / 4294967296 % 65536 : Nat) : Int), ((hi / 65536 % 65536 : Nat) : Int), ((hi % 65536 : Nat) : Int),
  ((lo / 281474976710656 % 65536 : Nat) : Int), ((lo / 4294967296 % 65536 : Nat) : Int), ((lo / 65536 % 65536 : Nat) : Int), ((lo % 65536 : Nat) : Int)]
def hexes (gs : List Int) : List (List UInt8) := gs.map hex
/-- The code's search for the longest run of zeros: the longest, how long the run here is, from, to. -/
def cst (p : List Bool) : Nat → Nat × Nat × Nat × Nat
  | 0 => (1, 0, 0, 0)
  | k + 1 =>
    let s := cst p k
    let long := if p.getD k false then s.2.1 + 1 else 0
    if s.1 < long then (long, long, k + 1 - long, k + 1) else (s.1, long, s.2.2.1, s.2.2.2)
/-- How long the run of zeros is from one on. -/
def zl (p : List Bool) (i : Nat) : Nat := ((p.drop i).takeWhile id).length
/-- The document's search. -/
def rst (p : List Bool) : Nat → Int
  | 0 => -1
  | k + 1 => if 1 < zl p k ∧ (rst p k < 0 ∨ zl p (rst p k).toNat < zl p k) then k else rst p k
def zp (gs : List Int) : List Bool := gs.map (· == 0)
def from6 (gs : List Int) : Nat := (cst (zp gs) 8).2.2.1
def to6 (gs : List Int) : Nat := (cst (zp gs) 8).2.2.2
def textG (gs : List Int) : List UInt8 := if from6 gs = to6 gs then glue 58 (hexes gs) else glue 58 ((hexes gs).take (from6 gs)) ++ 58 :: 58 :: glue 58 ((hexes gs).drop (to6 gs))
def text6 (hi lo : Nat) : List UInt8 := textG (gr hi lo)
def full6 (hi lo : Nat) : List UInt8 := glue 58 (hexes (gr hi lo))
theorem pat (P : List Bool → Prop) (h : ∀ a b c d e f g h : Bool, P [a, b, c, d, e, f, g, h]) {p : List Bool} (hp : p.length = 8) : P p := by
  match p, hp with
  | [a, b, c, d, e, f, g, i], _ => exact h a b c d e f g i
theorem run_all : ∀ a b c d e f g h : Bool, (fun p : List Bool => (cst p 8).2.2.1 ≤ (cst p 8).2.2.2 ∧ (cst p 8).2.2.2 ≤ 8 ∧ (cst p 8).2.2.1 + 1 ≠ (cst p 8).2.2.2 ∧ (∀ i, i < 8 → (cst p 8).2.2.1 ≤ i → i < (cst p 8).2.2.2 → p.getD i false = true)
    ∧ (rst p 8 < 0 ↔ (cst p 8).2.2.1 = (cst p 8).2.2.2) ∧ (0 ≤ rst p 8 → rst p 8 = (cst p 8).2.2.1 ∧ (cst p 8).2.2.2 = (cst p 8).2.2.1 + zl p (cst p 8).2.2.1)) [a, b, c, d, e, f, g, h] := by decide +kernel
theorem gr_len (hi lo : Nat) : (gr hi lo).length = 8 := rfl
theorem zp_len {gs : List Int} (h : gs.length = 8) : (zp gs).length = 8 := by unfold zp; simpa using h
theorem run6 {gs : List Int} (h : gs.length = 8) : from6 gs ≤ to6 gs ∧ to6 gs ≤ 8 ∧ from6 gs + 1 ≠ to6 gs ∧ (∀ i, i < 8 → from6 gs ≤ i → i < to6 gs → (zp gs).getD i false = true)
    ∧ (rst (zp gs) 8 < 0 ↔ from6 gs = to6 gs) ∧ (0 ≤ rst (zp gs) 8 → rst (zp gs) 8 = from6 gs ∧ to6 gs = from6 gs + zl (zp gs) (from6 gs)) :=
  pat (fun p : List Bool => (cst p 8).2.2.1 ≤ (cst p 8).2.2.2 ∧ (cst p 8).2.2.2 ≤ 8 ∧ (cst p 8).2.2.1 + 1 ≠ (cst p 8).2.2.2 ∧ (∀ i, i < 8 → (cst p 8).2.2.1 ≤ i → i < (cst p 8).2.2.2 → p.getD i false = true)
    ∧ (rst p 8 < 0 ↔ (cst p 8).2.2.1 = (cst p 8).2.2.2) ∧ (0 ≤ rst p 8 → rst p 8 = (cst p 8).2.2.1 ∧ (cst p 8).2.2.2 = (cst p 8).2.2.1 + zl p (cst p 8).2.2.1)) run_all (zp_len h)
theorem run_zero {gs : List Int} (h : gs.length = 8) {i : Nat} (h1 : from6 gs ≤ i) (h2 : i < to6 gs) : gs[i]? = some 0 := by
  have h8 : i < 8 := by have := (run6 h).2.1; omega
  have := (run6 h).2.2.2.1 i h8 h1 h2
  unfold zp at this
  rw [List.getD, List.getElem?_map, List.getElem?_eq_getElem (by omega)] at this
  simp at this
  rw [List.getElem?_eq_getElem (by omega), this]
theorem gs_split {gs : List Int} (h : gs.length = 8) : gs = gs.take (from6 gs) ++ List.replicate (to6 gs - from6 gs) 0 ++ gs.drop (to6 gs) := by
  have hr := run6 h
  apply List.ext_getElem?
  intro i
  by_cases c1 : i < from6 gs
  · rw [List.append_assoc, List.getElem?_append_left (by rw [List.length_take]; omega), List.getElem?_take_of_lt c1]
  · by_cases c2 : i < to6 gs
    · rw [run_zero h (by omega) c2, List.getElem?_append_left (by simp; omega), List.getElem?_append_right (by rw [List.length_take]; omega), List.getElem?_replicate, if_pos (by rw [List.length_take]; omega)]
    · rw [List.getElem?_append_right (by simp; omega), List.getElem?_drop]
      congr 1; simp; omega
theorem gr_bd (hi lo : Nat) : ∀ x ∈ gr hi lo, 0 ≤ x ∧ x ≤ 65535 := by
  intro x hx
  unfold gr at hx
  simp only [List.mem_cons, List.not_mem_nil, or_false] at hx
  rcases hx with rfl | rfl | rfl | rfl | rfl | rfl | rfl | rfl <;> omega
theorem hexes_ok {gs : List Int} (h : ∀ x ∈ gs, 0 ≤ x ∧ x ≤ 65535) : ∀ x ∈ hexes gs, x ≠ [] ∧ (58 : UInt8) ∉ x ∧ hexB x = true := by
  intro x hx
  obtain ⟨g, hg, rfl⟩ := List.mem_map.1 hx
  have := h g hg
  exact ⟨hex_ne this.1 this.2, hex_no58 _, by rw [hexB_hex]; simp; omega⟩
theorem nums_hexes {gs : List Int} (h : ∀ x ∈ gs, 0 ≤ x ∧ x ≤ 65535) : nums (hexes gs) = gs := by
  unfold nums hexes
  rw [List.map_map]
  conv => rhs; rw [← List.map_id gs]
  refine List.map_congr_left fun g hg => ?_
  have := h g hg
  exact hexN_hex (by rw [hexB_hex]; simp; omega)
theorem allHex_of {ps : List (List UInt8)} (h : ∀ x ∈ ps, x ≠ [] ∧ (58 : UInt8) ∉ x ∧ hexB x = true) : allHex ps = true := by
  unfold allHex
  rw [List.all_eq_true]
  exact fun x hx => (h x hx).2.2
theorem spell_hex {ps : List (List UInt8)} (h : ∀ x ∈ ps, hexB x = true) : spell ps = ps := by
  rcases List.eq_nil_or_concat ps with rfl | ⟨q, x, rfl⟩
  · rfl
  · rw [List.concat_eq_append] at h ⊢
    exact spell_off (hexB_not_ok4 (h x (by simp)))
theorem parts_glue {ps : List (List UInt8)} (h : ∀ x ∈ ps, x ≠ [] ∧ (58 : UInt8) ∉ x ∧ hexB x = true) : parts (glue 58 ps) = ps := by
  unfold parts
  cases ps with
  | nil => rfl
  | cons x r =>
    have hx := h x (by simp)
    rw [if_neg, cut_glue (by simp) (fun y hy => (h y hy).2.1)]
    cases r with
    | nil => exact hx.1
    | cons y t => rw [glue_cons _ _ (by simp)]; simp
/-- Ahead of the end no two colons stand side by side. -/
theorem glue_two (r : List UInt8) : ∀ {ps : List (List UInt8)}, (∀ x ∈ ps, x ≠ [] ∧ (58 : UInt8) ∉ x ∧ hexB x = true) → ∀ i, i < (glue 58 ps).length → ¬ two (glue 58 ps ++ 58 :: r) i
  | [], _, i, hi => by simp [glue] at hi
  | [x], h, i, hi => by
    have hx := h x (by simp)
    intro h2
    have h3 := h2.1
    rw [List.getElem?_append_left hi] at h3
    exact hx.2.1 (List.mem_of_getElem? h3)
  | x :: y :: t, h, i, hi => by
    have hx := h x (by simp)
    have ih := glue_two r (ps := y :: t) (fun z hz => h z (List.mem_cons_of_mem _ hz))
    have hg : glue 58 (y :: t) ≠ [] := by
      have hy := h y (by simp)
      cases t with
      | nil => exact hy.1
      | cons z u => rw [glue_cons _ _ (by simp)]; simp
    rw [glue_cons _ _ (by simp)] at hi ⊢
    rw [List.append_assoc, List.cons_append]
    intro h2
    have h3 := h2.1
    have h4 := h2.2
    by_cases c1 : i < x.length
    · rw [List.getElem?_append_left c1] at h3
      exact hx.2.1 (List.mem_of_getElem? h3)
    · rw [List.getElem?_append_right (by omega)] at h3 h4
      by_cases c2 : i = x.length
      · subst c2
        rw [show x.length + 1 - x.length = 0 + 1 by omega, List.getElem?_cons_succ] at h4
        have hy := h y (by simp)
        have h5 : (glue 58 (y :: t) ++ 58 :: r)[0]? = y[0]? := by
          have hy0 : 0 < y.length := List.length_pos_iff.2 hy.1
          cases t with
          | nil => exact List.getElem?_append_left hy0
          | cons z u => rw [glue_cons _ _ (by simp), List.append_assoc, List.getElem?_append_left hy0]
        rw [h5] at h4
        exact hy.2.1 (List.mem_of_getElem? h4)
      · obtain ⟨k, hk⟩ : ∃ k, i - x.length = k + 1 := ⟨i - x.length - 1, by omega⟩
        have hk2 : i + 1 - x.length = (k + 1) + 1 := by omega
        rw [hk, List.getElem?_cons_succ] at h3
        rw [hk2, List.getElem?_cons_succ] at h4
        refine ih k ?_ ⟨h3, h4⟩
        simp at hi; omega
theorem gap_glue {ps : List (List UInt8)} (h : ∀ x ∈ ps, x ≠ [] ∧ (58 : UInt8) ∉ x ∧ hexB x = true) : gap (glue 58 ps) = none := by
  rw [gap_none]
  intro i h2
  have h4 := h2.2
  have hi : i + 1 < (glue 58 ps).length := by
    rcases Nat.lt_or_ge (i + 1) (glue 58 ps).length with h5 | h5
    · exact h5
    · rw [List.getElem?_eq_none h5] at h4; cases h4
  refine glue_two [] h i (by omega) ?_
  unfold two at h2 ⊢
  rw [List.getElem?_append_left (by omega), List.getElem?_append_left hi]
  exact h2
theorem groups_full {gs : List Int} (h : ∀ x ∈ gs, 0 ≤ x ∧ x ≤ 65535) (h8 : gs.length = 8) : groups (glue 58 (hexes gs)) = some gs := by
  have ho := hexes_ok h
  have hs := spell_hex (fun x hx => (ho x hx).2.2)
  rw [groups_whole (gap_glue ho), parts_glue ho, hs, nums_hexes h, if_pos]
  unfold fullB
  rw [hs, allHex_of ho]
  simp [hexes, h8]
theorem groups_textG {gs : List Int} (h : ∀ x ∈ gs, 0 ≤ x ∧ x ≤ 65535) (h8 : gs.length = 8) : groups (textG gs) = some gs := by
  unfold textG
  by_cases hr : from6 gs = to6 gs
  · rw [if_pos hr, groups_full h h8]
  · rw [if_neg hr]
    have hr6 := run6 h8
    have ho := hexes_ok h
    have hA : ∀ x ∈ (hexes gs).take (from6 gs), x ≠ [] ∧ (58 : UInt8) ∉ x ∧ hexB x = true := fun x hx => ho x (List.mem_of_mem_take hx)
    have hB : ∀ x ∈ (hexes gs).drop (to6 gs), x ≠ [] ∧ (58 : UInt8) ∉ x ∧ hexB x = true := fun x hx => ho x (List.mem_of_mem_drop hx)
    have hg : gap (glue 58 ((hexes gs).take (from6 gs)) ++ 58 :: 58 :: glue 58 ((hexes gs).drop (to6 gs))) = some (glue 58 ((hexes gs).take (from6 gs)), glue 58 ((hexes gs).drop (to6 gs))) :=
      gap_some.2 ⟨rfl, fun i hi => glue_two _ hA i hi⟩
    have hlen : (hexes gs).length = 8 := by unfold hexes; simpa using h8
    unfold groups
    rw [hg]
    simp only []
    rw [parts_glue hA, parts_glue hB, spell_hex (fun x hx => (hB x hx).2.2), if_pos ⟨allHex_of hA, allHex_of hB, by rw [List.length_take, List.length_drop]; omega⟩]
    congr 1
    have e1 : nums ((hexes gs).take (from6 gs)) = gs.take (from6 gs) := by
      unfold hexes; rw [← List.map_take]; exact nums_hexes fun x hx => h x (List.mem_of_mem_take hx)
    have e2 : nums ((hexes gs).drop (to6 gs)) = gs.drop (to6 gs) := by
      unfold hexes; rw [← List.map_drop]; exact nums_hexes fun x hx => h x (List.mem_of_mem_drop hx)
    rw [e1, e2]
    conv => rhs; rw [gs_split h8]
    congr 3
    rw [List.length_take, List.length_drop]; omega
theorem val_hi {hi : Nat} (lo : Nat) (h : hi < 18446744073709551616) : val ((gr hi lo).take 4) = hi := by
  unfold gr val
  simp only [List.take_succ_cons, List.take_zero, List.foldl_cons, List.foldl_nil, Int.toNat_natCast]
  omega
theorem val_lo (hi : Nat) {lo : Nat} (h : lo < 18446744073709551616) : val ((gr hi lo).drop 4) = lo := by
  unfold gr val
  simp only [List.drop_succ_cons, List.drop_zero, List.foldl_cons, List.foldl_nil, Int.toNat_natCast]
  omega
theorem ok6_of {l : List UInt8} {g : List Int} (h : groups l = some g) : ok6 l = true ∧ hi6 l = val (g.take 4) ∧ lo6 l = val (g.drop 4) := by
  unfold ok6 hi6 lo6; rw [h]; exact ⟨rfl, rfl, rfl⟩
theorem ok6_no {l : List UInt8} (h : groups l = none) : ok6 l = false ∧ hi6 l = 0 ∧ lo6 l = 0 := by
  unfold ok6 hi6 lo6; rw [h]; exact ⟨rfl, rfl, rfl⟩
theorem no6 {l : List UInt8} (h : ok6 l = false) : hi6 l = 0 ∧ lo6 l = 0 := by
  unfold ok6 at h
  exact (ok6_no (by simpa using h)).2
/-- V63: an address is read of its text, and of the text of all its groups. -/
theorem back6 {hi lo : Nat} (h1 : hi < 18446744073709551616) (h2 : lo < 18446744073709551616) : ok6 (text6 hi lo) = true ∧ hi6 (text6 hi lo) = hi ∧ lo6 (text6 hi lo) = lo := by
  have := ok6_of (groups_textG (gr_bd hi lo) (gr_len hi lo))
  rw [val_hi lo h1, val_lo hi h2] at this
  exact this
theorem back6_full {hi lo : Nat} (h1 : hi < 18446744073709551616) (h2 : lo < 18446744073709551616) : ok6 (full6 hi lo) = true ∧ hi6 (full6 hi lo) = hi ∧ lo6 (full6 hi lo) = lo := by
  have := ok6_of (groups_full (gr_bd hi lo) (gr_len hi lo))
  rw [val_hi lo h1, val_lo hi h2] at this
  exact this
theorem glue_ge (c : UInt8) : ∀ {ps : List (List UInt8)}, (∀ x ∈ ps, x ≠ []) → 2 * ps.length ≤ (glue c ps).length + 1
  | [], _ => by simp
  | [x], h => by
    have := List.length_pos_iff.2 (h x (by simp))
    simp [glue]; omega
  | x :: y :: t, h => by
    have h1 := List.length_pos_iff.2 (h x (by simp))
    have ih := glue_ge c (ps := y :: t) (fun z hz => h z (List.mem_cons_of_mem _ hz))
    rw [glue_cons _ _ (by simp)]
    simp at ih ⊢; omega
theorem hexes_take (gs : List Int) (k : Nat) : hexes (gs.take k) = (hexes gs).take k := by unfold hexes; rw [List.map_take]
/-- No text is longer than that of all its groups. -/
theorem short6 (hi lo : Nat) : (text6 hi lo).length ≤ (full6 hi lo).length := by
  unfold text6 full6 textG
  have h8 := gr_len hi lo
  have hr6 := run6 h8
  have ho := hexes_ok (gr_bd hi lo)
  generalize gr hi lo = gs at *
  by_cases hr : from6 gs = to6 gs
  · rw [if_pos hr]; exact Nat.le_refl _
  · rw [if_neg hr]
    have hlen : (hexes gs).length = 8 := by unfold hexes; simpa using h8
    have e : hexes gs = (hexes gs).take (from6 gs) ++ (((hexes gs).drop (from6 gs)).take (to6 gs - from6 gs) ++ (hexes gs).drop (to6 gs)) := by
      conv => lhs; rw [← List.take_append_drop (from6 gs) (hexes gs)]
      congr 1
      conv => lhs; rw [← List.take_append_drop (to6 gs - from6 gs) ((hexes gs).drop (from6 gs))]
      rw [List.drop_drop]; congr 2; omega
    have hM := glue_ge 58 (ps := ((hexes gs).drop (from6 gs)).take (to6 gs - from6 gs)) (fun x hx => (ho x (List.mem_of_mem_drop (List.mem_of_mem_take hx))).1)
    have hMn : ((hexes gs).drop (from6 gs)).take (to6 gs - from6 gs) ≠ [] := by
      intro h
      have := congrArg List.length h
      simp at this; omega
    have hMl : (((hexes gs).drop (from6 gs)).take (to6 gs - from6 gs)).length = to6 gs - from6 gs := by simp; omega
    conv => rhs; rw [e]
    rw [hMl] at hM
    by_cases hA : (hexes gs).take (from6 gs) = []
    · rw [hA]
      by_cases hB : (hexes gs).drop (to6 gs) = []
      · rw [hB, List.append_nil, List.nil_append]; simp [glue]; omega
      · rw [List.nil_append, glue_append _ hMn hB]; simp [glue]; omega
    · by_cases hB : (hexes gs).drop (to6 gs) = []
      · rw [hB, List.append_nil, glue_append _ hA hMn]; simp [glue]; omega
      · rw [glue_append _ hA (by simp [hMn]), glue_append _ hMn hB]; simp <;> omega
theorem hexes_len4 (gs : List Int) : ∀ x ∈ hexes gs, x.length ≤ 4 := by
  intro x hx
  obtain ⟨g, _, rfl⟩ := List.mem_map.1 hx
  exact hex_len g
theorem full6_len (hi lo : Nat) : (full6 hi lo).length ≤ 40 := by
  have := glue_sum (c := 58) (hexes_len4 (gr hi lo))
  unfold full6
  have h8 : (hexes (gr hi lo)).length = 8 := rfl
  omega
theorem text6_len (hi lo : Nat) : (text6 hi lo).length ≤ 40 := Nat.le_trans (short6 hi lo) (full6_len hi lo)
end Go.Proofs.Ytgnjbbohphoojaa.V6
/- Plain words on addresses of either kind: no program. -/
namespace Go.Proofs.Ytgnjbbohphoojaa.Ad
open Dec Words V4 V6
/-- An address: its kind and its bits. -/
structure Adr where
  v6 : Bool
  hi : Nat
  lo : Nat
def Adr.ok (a : Adr) : Prop := a.hi < 18446744073709551616 ∧ a.lo < 18446744073709551616
theorem adr_eq {a b : Adr} (h1 : a.v6 = b.v6) (h2 : a.hi = b.hi) (h3 : a.lo = b.lo) : a = b := by
  cases a; cases b; simp_all
def v4A (n : Nat) : Adr := ⟨false, 0, n⟩
/-- Does it stand for an address of four bytes? -/
def stands (hi lo : Nat) : Bool := decide (hi = 0) && decide (lo / 4294967296 = 65535)
def v6A (hi lo : Nat) : Adr := if stands hi lo then ⟨false, 0, lo % 4294967296⟩ else ⟨true, hi, lo⟩
def rightA (a : Adr) : Bool := if a.v6 then !stands a.hi a.lo else decide (a.hi = 0) && decide (a.lo < 4294967296)
def okA (l : List UInt8) : Bool := ok4 l || ok6 l
def parseA (l : List UInt8) : Adr := if ok4 l then v4A (num4 l) else if ok6 l then v6A (hi6 l) (lo6 l) else ⟨false, 0, 0⟩
def textA (a : Adr) : List UInt8 := if rightA a then (if a.v6 then text6 a.hi a.lo else text4 a.lo) else []
def bitsA (a : Adr) : Nat := if a.v6 then 128 else 32
/-- Bit i, the highest first. -/
def bitN (a : Adr) (i : Nat) : Nat := if a.v6 then (if i < 64 then a.hi / 2 ^ (63 - i) % 2 else a.lo / 2 ^ (127 - i) % 2) else a.lo / 2 ^ (31 - i) % 2
def bitA (a : Adr) (i : Int) : Int := if 0 ≤ i ∧ i < (bitsA a : Int) then (bitN a i.toNat : Int) else 0
def lessA (a b : Adr) : Bool := if a.v6 = b.v6 then (if a.hi = b.hi then decide (a.lo < b.lo) else decide (a.hi < b.hi)) else b.v6
def sameA (a b : Adr) : Bool := a.v6 == b.v6 && (a.hi == b.hi && a.lo == b.lo)
def cmpA (a b : Adr) : Int := if sameA a b then 0 else if lessA a b then -1 else 1
theorem sameA_iff (a b : Adr) : sameA a b = true ↔ a = b := by
  unfold sameA
  cases a; cases b; simp
/-! What is read is right, and is read again. -/
theorem stands_iff (hi lo : Nat) : stands hi lo = true ↔ hi = 0 ∧ lo / 4294967296 = 65535 := by unfold stands; simp
theorem v4A_ok {n : Nat} (h : n < 4294967296) : (v4A n).ok := ⟨Nat.zero_lt_succ _, Nat.lt_trans h (by decide)⟩
theorem v6A_ok {hi lo : Nat} (h1 : hi < 18446744073709551616) (h2 : lo < 18446744073709551616) : (v6A hi lo).ok := by
  unfold v6A Adr.ok
  split
  · exact ⟨by simp, by simp only []; omega⟩
  · exact ⟨h1, h2⟩
theorem v4A_right {n : Nat} (h : n < 4294967296) : rightA (v4A n) = true := by unfold rightA v4A; simp [h]
theorem v6A_right (hi lo : Nat) : rightA (v6A hi lo) = true := by
  unfold v6A
  cases e : stands hi lo
  · simp [rightA, e]
  · simp [rightA]; omega
theorem v6A_same {hi lo : Nat} (h : stands hi lo = false) : v6A hi lo = ⟨true, hi, lo⟩ := by unfold v6A; rw [h]; rfl
theorem parseA_ok (l : List UInt8) : (parseA l).ok := by
  unfold parseA
  split
  · exact v4A_ok (num4_lt l)
  · split
    · exact v6A_ok (hi6_lt l) (lo6_lt l)
    · exact ⟨by decide, by decide⟩
theorem parseA_right {l : List UInt8} (h : okA l = true) : rightA (parseA l) = true := by
  unfold parseA
  unfold okA at h
  split
  · exact v4A_right (num4_lt l)
  · rename_i h4
    have h6 : ok6 l = true := by
      rw [Bool.or_eq_true] at h
      rcases h with h | h
      · exact absurd h h4
      · exact h
    rw [if_pos h6]; exact v6A_right _ _
theorem parseA_no {l : List UInt8} (h : okA l = false) : parseA l = ⟨false, 0, 0⟩ := by
  unfold okA at h
  rw [Bool.or_eq_false_iff] at h
  unfold parseA
  rw [h.1, h.2]; rfl
theorem ok4_no58 {l : List UInt8} (h : ok4 l = true) : (58 : UInt8) ∉ l := by
  have e := text4_num4 h
  generalize num4 l = n at e
  subst e
  have hd : ∀ n : Nat, (58 : UInt8) ∉ text (n : Int) := fun n h => absurd (text_digit h) (by decide)
  have h0 := hd (n / 16777216 % 256)
  have h1 := hd (n / 65536 % 256)
  have h2 := hd (n / 256 % 256)
  have h3 := hd (n % 256)
  unfold text4 parts4
  generalize text ((n / 16777216 % 256 : Nat) : Int) = a at *
  generalize text ((n / 65536 % 256 : Nat) : Int) = b at *
  generalize text ((n / 256 % 256 : Nat) : Int) = c at *
  generalize text ((n % 256 : Nat) : Int) = d at *
  simp [glue, h0, h1, h2, h3]
theorem ok4_not_ok6 {l : List UInt8} (h : ok4 l = true) : ok6 l = false := by
  have h58 := ok4_no58 h
  have hg : gap l = none := gap_none.2 fun i ht => h58 (List.mem_of_getElem? ht.1)
  have hp : parts l = [l] := by unfold parts; rw [if_neg (ok4_ne h), cut_none h58]
  have hs : spell [l] = [hi4 l, lo4 l] := by unfold spell; rw [h]; rfl
  refine (ok6_no ?_).1
  unfold groups
  rw [hg, hp, hs]
  simp
theorem back4 {n : Nat} (h : n < 4294967296) : okA (text4 n) = true ∧ parseA (text4 n) = v4A n := by
  have e := ok4_text4 n
  unfold okA parseA
  rw [e, num4_text4 h]
  exact ⟨rfl, rfl⟩
theorem backA {a : Adr} (ha : a.ok) (h : rightA a = true) : okA (textA a) = true ∧ parseA (textA a) = a := by
  unfold textA
  rw [if_pos h]
  unfold rightA at h
  cases e : a.v6
  · rw [e] at h
    simp only [Bool.false_eq_true, if_false, Bool.and_eq_true, decide_eq_true_eq] at h ⊢
    obtain ⟨h1, h2⟩ := back4 h.2
    exact ⟨h1, h2.trans (adr_eq e.symm h.1.symm rfl)⟩
  · rw [e] at h
    simp only [if_true, Bool.not_eq_true'] at h ⊢
    obtain ⟨b1, b2, b3⟩ := back6 ha.1 ha.2
    have b0 : ok4 (text6 a.hi a.lo) = false := by
      cases hk : ok4 (text6 a.hi a.lo)
      · rfl
      · rw [ok4_not_ok6 hk] at b1; cases b1
    unfold okA parseA
    rw [b0, b1, b2, b3, v6A_same h]
    exact ⟨rfl, adr_eq e.symm rfl rfl⟩
theorem textA_no {a : Adr} (h : rightA a = false) : textA a = [] := by unfold textA; rw [h]; rfl
theorem textA_len (a : Adr) : (textA a).length ≤ 40 := by
  unfold textA
  split
  · split
    · exact text6_len _ _
    · exact Nat.le_trans (text4_len _) (by omega)
  · simp
theorem okA_nil : okA [] = false := by decide +kernel
/-! Bits tell an address. -/
theorem bit_test (n k : Nat) : n / 2 ^ k % 2 = (n.testBit k).toNat := (Nat.toNat_testBit n k).symm
theorem same_low {n m k : Nat} (hn : n < 2 ^ k) (hm : m < 2 ^ k) (h : ∀ j, j < k → n / 2 ^ j % 2 = m / 2 ^ j % 2) : n = m := by
  refine Nat.eq_of_testBit_eq fun j => ?_
  by_cases hj : j < k
  · have := h j hj
    rw [bit_test, bit_test] at this
    revert this
    cases n.testBit j <;> cases m.testBit j <;> decide
  · rw [Nat.testBit_lt_two_pow (Nat.lt_of_lt_of_le hn (Nat.pow_le_pow_right (by omega) (by omega))), Nat.testBit_lt_two_pow (Nat.lt_of_lt_of_le hm (Nat.pow_le_pow_right (by omega) (by omega)))]
theorem bits_same {a b : Adr} (ha : a.ok) (hb : b.ok) (ra : rightA a = true) (rb : rightA b = true) (hv : bitsA a = bitsA b) (h : ∀ i, i < bitsA a → bitN a i = bitN b i) : a = b := by
  have hv6 : a.v6 = b.v6 := by
    unfold bitsA at hv
    cases e : a.v6 <;> cases f : b.v6 <;> simp [e, f] at hv ⊢
  unfold rightA at ra rb
  unfold Adr.ok at ha hb
  cases e : a.v6
  · have f : b.v6 = false := by rw [← hv6, e]
    rw [e] at ra
    rw [f] at rb
    simp only [Bool.false_eq_true, if_false, Bool.and_eq_true, decide_eq_true_eq] at ra rb
    refine adr_eq hv6 (by omega) (same_low (k := 32) (by omega) (by omega) fun j hj => ?_)
    have := h (31 - j) (by unfold bitsA; rw [e]; simp; omega)
    unfold bitN at this
    rw [e, f] at this
    simp only [Bool.false_eq_true, if_false] at this
    rwa [show 31 - (31 - j) = j from by omega] at this
  · have f : b.v6 = true := by rw [← hv6, e]
    refine adr_eq hv6 (same_low (k := 64) (by omega) (by omega) fun j hj => ?_) (same_low (k := 64) (by omega) (by omega) fun j hj => ?_)
    · have := h (63 - j) (by unfold bitsA; rw [e]; simp; omega)
      unfold bitN at this
      rw [e, f] at this
      simp only [if_true] at this
      rwa [if_pos (by omega), if_pos (by omega), show 63 - (63 - j) = j from by omega] at this
    · have := h (127 - j) (by unfold bitsA; rw [e]; simp; omega)
      unfold bitN at this
      rw [e, f] at this
      simp only [if_true] at this
      rwa [if_neg (by omega), if_neg (by omega), show 127 - (127 - j) = j from by omega] at this
/-! One order. -/
theorem cmp_zero (a b : Adr) : cmpA a b = 0 ↔ a = b := by
  rw [← sameA_iff]
  unfold cmpA
  cases sameA a b
  · simp; split <;> omega
  · simp
theorem cmp_one (a b : Adr) : cmpA a b = 0 ∨ cmpA a b = 1 ∨ cmpA a b = -1 := by
  unfold cmpA
  split
  · exact .inl rfl
  · split
    · exact .inr (.inr rfl)
    · exact .inr (.inl rfl)
theorem lessA_iff (a b : Adr) : lessA a b = true ↔ (a.v6 = false ∧ b.v6 = true) ∨ (a.v6 = b.v6 ∧ (a.hi < b.hi ∨ (a.hi = b.hi ∧ a.lo < b.lo))) := by
  unfold lessA
  by_cases e : a.hi = b.hi
  · rw [if_pos e]
    cases a.v6 <;> cases b.v6 <;> simp [e]
  · rw [if_neg e]
    cases a.v6 <;> cases b.v6 <;> simp [e]
theorem cmp_flip (a b : Adr) : cmpA a b = -cmpA b a := by
  by_cases h : a = b
  · subst h
    have := (cmp_zero a a).2 rfl
    omega
  · have h1 : sameA a b = false := by rw [← Bool.not_eq_true, sameA_iff]; exact h
    have h2 : sameA b a = false := by rw [← Bool.not_eq_true, sameA_iff]; exact fun e => h e.symm
    have hl : lessA a b = !lessA b a := by
      rw [Bool.eq_iff_iff, Bool.not_eq_true', ← Bool.not_eq_true, lessA_iff, lessA_iff]
      have hne : ¬ (a.v6 = b.v6 ∧ a.hi = b.hi ∧ a.lo = b.lo) := fun e => h (adr_eq e.1 e.2.1 e.2.2)
      cases e : a.v6 <;> cases f : b.v6 <;> simp [e, f] at hne ⊢ <;> omega
    unfold cmpA
    rw [h1, h2, hl]
    cases lessA b a <;> simp
theorem cmp_le {a b c : Adr} (h1 : cmpA a b ≤ 0) (h2 : cmpA b c ≤ 0) : cmpA a c ≤ 0 := by
  have le_iff : ∀ x y : Adr, cmpA x y ≤ 0 ↔ x = y ∨ lessA x y = true := by
    intro x y
    rw [← sameA_iff]
    unfold cmpA
    cases sameA x y <;> cases lessA x y <;> simp
  rw [le_iff] at *
  rcases h1 with rfl | h1
  · exact h2
  · rcases h2 with rfl | h2
    · exact .inr h1
    · refine .inr ?_
      rw [lessA_iff] at *
      cases e : a.v6 <;> cases f : b.v6 <;> cases g : c.v6 <;> simp [e, f, g] at h1 h2 ⊢ <;> omega
theorem cmp_ge {a b c : Adr} (h1 : 0 ≤ cmpA a b) (h2 : 0 ≤ cmpA b c) : 0 ≤ cmpA a c := by
  have f1 := cmp_flip a b
  have f2 := cmp_flip b c
  have f3 := cmp_flip a c
  have := cmp_le (a := c) (b := b) (c := a) (by omega) (by omega)
  omega
end Go.Proofs.Ytgnjbbohphoojaa.Ad
/- Subnets in plain words: the first bits of an address, what is made of it, texts and what is read of them. -/
namespace Go.Proofs.Ytgnjbbohphoojaa.Ci
open Dec Words V4 V6 Ad
/-- A number whose lowest r bits are struck. -/
def keep (n r : Nat) : Nat := n / 2 ^ r * 2 ^ r
theorem keep_le (n r : Nat) : keep n r ≤ n := Nat.div_mul_le_self _ _
theorem keep_zero (n : Nat) : keep n 0 = n := by unfold keep; simp
theorem keep_low {n r : Nat} (h : n < 2 ^ r) : keep n r = 0 := by unfold keep; rw [Nat.div_eq_of_lt h, Nat.zero_mul]
theorem keep_nil (r : Nat) : keep 0 r = 0 := by unfold keep; simp
theorem keep_bit (n r j : Nat) : (keep n r).testBit j = (decide (r ≤ j) && n.testBit j) := by
  unfold keep
  rw [← Nat.shiftRight_eq_div_pow, ← Nat.shiftLeft_eq, Nat.testBit_shiftLeft]
  by_cases h : r ≤ j
  · rw [Nat.testBit_shiftRight, show r + (j - r) = j from by omega]
  · simp [h]
theorem keep_keep (n r s : Nat) : keep (keep n r) s = keep n (max r s) := by
  refine Nat.eq_of_testBit_eq fun j => ?_
  have e : decide (max r s ≤ j) = (decide (s ≤ j) && decide (r ≤ j)) := by
    rw [Bool.eq_iff_iff, Bool.and_eq_true, decide_eq_true_eq, decide_eq_true_eq, decide_eq_true_eq]; omega
  rw [keep_bit, keep_bit, keep_bit, e, Bool.and_assoc]
theorem keep_step (n r : Nat) : keep n r = keep n (r + 1) + n / 2 ^ r % 2 * 2 ^ r := by
  unfold keep
  rw [Nat.pow_succ, ← Nat.div_div_eq_div_mul]
  have h := Nat.div_add_mod (n / 2 ^ r) 2
  calc n / 2 ^ r * 2 ^ r = (2 * (n / 2 ^ r / 2) + n / 2 ^ r % 2) * 2 ^ r := by rw [h]
    _ = _ := by rw [Nat.add_mul, Nat.mul_comm 2, Nat.mul_assoc, Nat.mul_comm 2]
theorem keep_same {n r : Nat} : keep n r = n ↔ ∀ j, j < r → n / 2 ^ j % 2 = 0 := by
  constructor
  · intro h j hj
    have := keep_bit n r j
    rw [h] at this
    rw [bit_test, this]
    simp [show ¬ r ≤ j from by omega]
  · intro h
    refine Nat.eq_of_testBit_eq fun j => ?_
    rw [keep_bit]
    by_cases hj : r ≤ j
    · simp [hj]
    · have := h j (by omega)
      rw [bit_test] at this
      revert this
      cases n.testBit j <;> simp
/-- A subnet: its address and how many bits it has. -/
structure Net where
  a : Adr
  n : Int
def zero : Net := ⟨⟨false, 0, 0⟩, 0⟩
def Net.ok (m : Net) : Prop := m.a.ok ∧ -9223372036854775808 ≤ m.n ∧ m.n ≤ 9223372036854775807
def firstA (a : Adr) (k : Nat) : Adr := ⟨a.v6, keep a.hi (bitsA a - k - 64), keep a.lo (bitsA a - k)⟩
def maskA (a : Adr) (i : Int) : Adr := if rightA a then firstA a (min i.toNat (bitsA a)) else ⟨false, 0, 0⟩
def makeB (a : Adr) (i : Int) : Bool := rightA a && (decide (0 ≤ i) && decide (i ≤ (bitsA a : Int)))
def makeN (a : Adr) (i : Int) : Net := if makeB a i then ⟨firstA a i.toNat, i⟩ else zero
def fullN (a : Adr) : Net := makeN a (bitsA a : Int)
def sameN (m n : Net) : Bool := sameA m.a n.a && m.n == n.n
def hasN (n : Net) (a : Adr) : Bool := makeB a n.n && sameN (makeN a n.n) n
def rightN (n : Net) : Bool := hasN n n.a
def textN (n : Net) : List UInt8 := if rightN n then textA n.a ++ 47 :: text n.n else []
theorem sameN_iff (m n : Net) : sameN m n = true ↔ m = n := by
  unfold sameN
  rw [Bool.and_eq_true, sameA_iff, beq_iff_eq]
  cases m; cases n; simp
theorem makeB_iff (a : Adr) (i : Int) : makeB a i = true ↔ rightA a = true ∧ 0 ≤ i ∧ i ≤ (bitsA a : Int) := by unfold makeB; simp
theorem bitsA_two (a : Adr) : bitsA a = 128 ∨ bitsA a = 32 := by unfold bitsA; split <;> omega
theorem bitsA_first (a : Adr) (k : Nat) : bitsA (firstA a k) = bitsA a := by unfold bitsA firstA; rfl
theorem firstA_ok {a : Adr} (h : a.ok) (k : Nat) : (firstA a k).ok := ⟨Nat.lt_of_le_of_lt (keep_le _ _) h.1, Nat.lt_of_le_of_lt (keep_le _ _) h.2⟩
theorem first_first (a : Adr) (j k : Nat) : firstA (firstA a j) k = firstA a (min j k) := by
  unfold firstA
  rw [show bitsA ⟨a.v6, keep a.hi (bitsA a - j - 64), keep a.lo (bitsA a - j)⟩ = bitsA a from by unfold bitsA; rfl]
  simp only [keep_keep]
  rw [show max (bitsA a - j - 64) (bitsA a - k - 64) = bitsA a - min j k - 64 from by omega, show max (bitsA a - j) (bitsA a - k) = bitsA a - min j k from by omega]
theorem keep_div {n r s : Nat} (h : r ≤ s) : keep n r / 2 ^ s = n / 2 ^ s := by
  refine Nat.eq_of_testBit_eq fun j => ?_
  rw [← Nat.shiftRight_eq_div_pow, ← Nat.shiftRight_eq_div_pow, Nat.testBit_shiftRight, Nat.testBit_shiftRight, keep_bit]
  simp [show r ≤ s + j from by omega]
theorem keep_odd {n r s : Nat} (h : s < r) : keep n r / 2 ^ s % 2 = 0 := by
  rw [bit_test, keep_bit]; simp [show ¬ r ≤ s from by omega]
theorem stands_first {hi lo : Nat} {k : Nat} (hs : stands (keep hi (128 - k - 64)) (keep lo (128 - k)) = true) : 96 ≤ k ∧ (k ≤ 128 → stands hi lo = true) := by
  rw [stands_iff] at hs
  obtain ⟨h1, h2⟩ := hs
  have hk : 96 ≤ k := by
    refine Nat.le_of_not_lt fun hk => ?_
    have := keep_odd (n := lo) (r := 128 - k) (s := 32) (by omega)
    rw [show (2 : Nat) ^ 32 = 4294967296 from rfl, h2] at this
    omega
  refine ⟨hk, fun hk2 => (stands_iff _ _).2 ⟨?_, ?_⟩⟩
  · rw [show 128 - k - 64 = 0 from by omega, keep_zero] at h1; exact h1
  · have := keep_div (n := lo) (r := 128 - k) (s := 32) (by omega)
    rw [show (2 : Nat) ^ 32 = 4294967296 from rfl] at this
    rw [← this]; exact h2
theorem first_right {a : Adr} (h : rightA a = true) (k : Nat) (hk : k ≤ bitsA a) : rightA (firstA a k) = true := by
  unfold rightA at h ⊢
  cases e : a.v6
  · rw [e] at h
    rw [show (firstA a k).v6 = false from e]
    simp only [Bool.false_eq_true, if_false, Bool.and_eq_true, decide_eq_true_eq] at h ⊢
    exact ⟨by have := keep_le a.hi (bitsA a - k - 64); show keep _ _ = 0; omega, by have := keep_le a.lo (bitsA a - k); show keep _ _ < _; omega⟩
  · have hb : bitsA a = 128 := by unfold bitsA; rw [e]; rfl
    rw [e] at h
    rw [show (firstA a k).v6 = true from e]
    simp only [if_true, Bool.not_eq_true'] at h ⊢
    rw [show (firstA a k).hi = keep a.hi (128 - k - 64) from by unfold firstA; rw [hb], show (firstA a k).lo = keep a.lo (128 - k) from by unfold firstA; rw [hb], ← Bool.not_eq_true]
    intro hs
    have := (stands_first hs).2 (by omega)
    rw [h] at this; cases this
theorem marked_right (hi lo : Nat) {k : Nat} (hk : k < 96) : rightA (firstA ⟨true, hi, lo⟩ k) = true := by
  unfold rightA
  rw [show (firstA ⟨true, hi, lo⟩ k).v6 = true from rfl, if_pos rfl, Bool.not_eq_true', ← Bool.not_eq_true]
  intro hs
  have := (stands_first (hi := hi) (lo := lo) (k := k) hs).1
  omega
theorem makeN_ok {a : Adr} (h : a.ok) (i : Int) : (makeN a i).ok := by
  unfold makeN
  split
  · rename_i hb
    rw [makeB_iff] at hb
    have := bitsA_two a
    exact ⟨firstA_ok h _, by show _ ≤ i; omega, by show i ≤ _; omega⟩
  · exact ⟨⟨by decide, by decide⟩, by decide, by decide⟩
theorem make_right {a : Adr} {i : Int} (h : makeB a i = true) : rightN (makeN a i) = true := by
  obtain ⟨h1, h2, h3⟩ := (makeB_iff a i).1 h
  have hr := first_right h1 i.toNat (by omega)
  have hm : makeB (firstA a i.toNat) i = true := (makeB_iff _ _).2 ⟨hr, h2, h3⟩
  unfold rightN hasN
  rw [show makeN a i = ⟨firstA a i.toNat, i⟩ from by unfold makeN; rw [if_pos h]]
  simp only []
  rw [hm, Bool.true_and, sameN_iff]
  unfold makeN
  rw [if_pos hm, first_first, Nat.min_self]
theorem rightN_iff (n : Net) : rightN n = true ↔ makeB n.a n.n = true ∧ firstA n.a n.n.toNat = n.a := by
  unfold rightN hasN
  rw [Bool.and_eq_true, sameN_iff]
  constructor
  · rintro ⟨h1, h2⟩
    unfold makeN at h2
    rw [if_pos h1] at h2
    exact ⟨h1, congrArg Net.a h2⟩
  · rintro ⟨h1, h2⟩
    refine ⟨h1, ?_⟩
    unfold makeN
    rw [if_pos h1, h2]
/-- By its bits: all behind the first are none. -/
theorem first_bits {a : Adr} (hr : rightA a = true) (ha : a.ok) {k : Nat} (hk : k ≤ bitsA a) : firstA a k = a ↔ ∀ j, k ≤ j → j < bitsA a → bitN a j = 0 := by
  obtain ⟨v, hi, lo⟩ := a
  obtain ⟨h1, h2⟩ := ha
  simp only [] at h1 h2
  have e : firstA ⟨v, hi, lo⟩ k = ⟨v, hi, lo⟩ ↔ keep hi (bitsA ⟨v, hi, lo⟩ - k - 64) = hi ∧ keep lo (bitsA ⟨v, hi, lo⟩ - k) = lo := by
    unfold firstA; simp
  rw [e, keep_same, keep_same]
  cases v
  · have hb : bitsA ⟨false, hi, lo⟩ = 32 := rfl
    have h0 : lo < 4294967296 := by
      unfold rightA at hr; simp at hr; exact hr.2
    rw [hb] at hk ⊢
    constructor
    · rintro ⟨_, h⟩ j h3 h4
      unfold bitN
      exact h _ (by omega)
    · intro h
      refine ⟨fun j hj => by omega, fun j hj => ?_⟩
      have := h (31 - j) (by omega) (by omega)
      unfold bitN at this
      simp only [Bool.false_eq_true, if_false] at this
      rwa [show 31 - (31 - j) = j from by omega] at this
  · have hb : bitsA ⟨true, hi, lo⟩ = 128 := rfl
    rw [hb] at hk ⊢
    constructor
    · rintro ⟨g, h⟩ j h3 h4
      unfold bitN
      simp only [if_true]
      by_cases hj : j < 64
      · rw [if_pos hj]; exact g _ (by omega)
      · rw [if_neg hj]; exact h _ (by omega)
    · intro h
      refine ⟨fun j hj => ?_, fun j hj => ?_⟩
      · have := h (63 - j) (by omega) (by omega)
        unfold bitN at this
        simp only [if_true] at this
        rwa [if_pos (by omega), show 63 - (63 - j) = j from by omega] at this
      · by_cases hj2 : j < 64
        · have := h (127 - j) (by omega) (by omega)
          unfold bitN at this
          simp only [if_true] at this
          rwa [if_neg (by omega), show 127 - (127 - j) = j from by omega] at this
        · rw [Nat.div_eq_of_lt (Nat.lt_of_lt_of_le h2 (Nat.pow_le_pow_right (n := 2) (i := 64) (by omega) (by omega)))]
/-! Texts. -/
theorem cut_mem {c d : UInt8} (h : c ≠ d) : ∀ {l : List UInt8}, c ∈ l → ∃ x ∈ cut d l, c ∈ x
  | [], h => by cases h
  | b :: l, hm => by
    by_cases e : b = d
    · subst e
      rw [cut_hit]
      obtain ⟨x, hx, hc⟩ := cut_mem h ((List.mem_cons.1 hm).resolve_left h)
      exact ⟨x, by simp [hx], hc⟩
    · obtain ⟨x, r, e1, e2⟩ := cut_off e l
      rw [e2]
      rcases List.mem_cons.1 hm with rfl | hm
      · exact ⟨c :: x, by simp, by simp⟩
      · obtain ⟨y, hy, hc⟩ := cut_mem h hm
        rw [e1] at hy
        rcases List.mem_cons.1 hy with rfl | hy
        · exact ⟨b :: y, by simp, by simp [hc]⟩
        · exact ⟨y, by simp [hy], hc⟩
theorem part_mem {l : List UInt8} (h : (47 : UInt8) ∈ l) : ∃ x ∈ parts l, (47 : UInt8) ∈ x := by
  unfold parts
  rw [if_neg (by rintro rfl; cases h)]
  exact cut_mem (by decide) h
theorem text_no47 (n : Nat) : (47 : UInt8) ∉ text (n : Int) := fun h => absurd (text_digit h) (by decide)
theorem text4_no47 (n : Nat) : (47 : UInt8) ∉ text4 n := by
  have h0 := text_no47 (n / 16777216 % 256)
  have h1 := text_no47 (n / 65536 % 256)
  have h2 := text_no47 (n / 256 % 256)
  have h3 := text_no47 (n % 256)
  unfold text4 parts4
  generalize text ((n / 16777216 % 256 : Nat) : Int) = a at *
  generalize text ((n / 65536 % 256 : Nat) : Int) = b at *
  generalize text ((n / 256 % 256 : Nat) : Int) = c at *
  generalize text ((n % 256 : Nat) : Int) = d at *
  simp [glue, h0, h1, h2, h3]
theorem ok4_no47 {l : List UInt8} (h : ok4 l = true) : (47 : UInt8) ∉ l := by rw [← text4_num4 h]; exact text4_no47 _
theorem hexB_no47 {l : List UInt8} (h : hexB l = true) : (47 : UInt8) ∉ l := fun hm => by
  rw [hexB_bad hm (by decide)] at h; cases h
theorem spell_mem (ps : List (List UInt8)) : ∀ x ∈ ps, x ∈ spell ps ∨ ok4 x = true := by
  revert ps
  refine snocRec (fun x h => by cases h) fun ps y _ x hx => ?_
  rw [spell_snoc]
  rcases List.mem_append.1 hx with hx | hx
  · exact .inl (by simp [hx])
  · obtain rfl : x = y := by simpa using hx
    cases e : ok4 x
    · exact .inl (by unfold spell; rw [e]; simp)
    · exact .inr rfl
theorem allHex_no47 {l : List UInt8} (h : allHex (spell (parts l)) = true) : (47 : UInt8) ∉ l := fun hm => by
  obtain ⟨x, hx, h47⟩ := part_mem hm
  rcases spell_mem _ x hx with hs | h4
  · unfold allHex at h
    exact hexB_no47 (List.all_eq_true.1 h x hs) h47
  · exact ok4_no47 h4 h47
theorem allHex_no47' {l : List UInt8} (h : allHex (parts l) = true) : (47 : UInt8) ∉ l := fun hm => by
  obtain ⟨x, hx, h47⟩ := part_mem hm
  unfold allHex at h
  exact hexB_no47 (List.all_eq_true.1 h x hx) h47
theorem ok6_no47 {l : List UInt8} (h : ok6 l = true) : (47 : UInt8) ∉ l := by
  unfold ok6 groups at h
  split at h
  · split at h
    · rename_i h2
      exact allHex_no47 h2.1
    · cases h
  · rename_i b a hg
    split at h
    · rename_i h2
      rw [(gap_some.1 hg).1]
      have h3 := allHex_no47' h2.1
      have h4 := allHex_no47 h2.2.1
      simp [h3, h4]
    · cases h
theorem okA_no47 {l : List UInt8} (h : okA l = true) : (47 : UInt8) ∉ l := by
  unfold okA at h
  rcases Bool.or_eq_true _ _ ▸ h with h | h
  · exact ok4_no47 h
  · exact ok6_no47 h
theorem textA_no47 {a : Adr} (ha : a.ok) (h : rightA a = true) : (47 : UInt8) ∉ textA a := okA_no47 (backA ha h).1
/-- What stands ahead of the first slash; what behind it. -/
def pre (l : List UInt8) : List UInt8 := l.takeWhile (· != 47)
def slash (l : List UInt8) : Bool := l.contains 47
def post (l : List UInt8) : List UInt8 := (l.dropWhile (· != 47)).drop 1
theorem pre_none {l : List UInt8} (h : (47 : UInt8) ∉ l) : pre l = l ∧ slash l = false := by
  refine ⟨?_, by unfold slash; simpa using h⟩
  unfold pre
  induction l with
  | nil => rfl
  | cons b l ih =>
    have h1 : b ≠ 47 := fun e => h (by simp [e])
    rw [List.takeWhile_cons, if_pos (by simpa using h1), ih (fun e => h (List.mem_cons_of_mem _ e))]
theorem pre_mid {u : List UInt8} (h : (47 : UInt8) ∉ u) (v : List UInt8) : pre (u ++ 47 :: v) = u ∧ post (u ++ 47 :: v) = v ∧ slash (u ++ 47 :: v) = true := by
  refine ⟨?_, ?_, by unfold slash; simp⟩
  · unfold pre
    induction u with
    | nil => rfl
    | cons b u ih =>
      have h1 : b ≠ 47 := fun e => h (by simp [e])
      rw [List.cons_append, List.takeWhile_cons, if_pos (by simpa using h1), ih (fun e => h (List.mem_cons_of_mem _ e))]
  · unfold post
    induction u with
    | nil => rfl
    | cons b u ih =>
      have h1 : b ≠ 47 := fun e => h (by simp [e])
      rw [List.cons_append, List.dropWhile_cons, if_pos (by simpa using h1), ih (fun e => h (List.mem_cons_of_mem _ e))]
/-- An IPv6 text that stands for an address of four bytes. -/
def marked (u : List UInt8) : Bool := ok6 u && !(parseA u).v6
def bitsT (l : List UInt8) : Int := parN (post l) 128
def okN (l : List UInt8) : Bool := okA (pre l) && (!slash l || (parB (post l) 128 && (marked (pre l) || makeB (parseA (pre l)) (bitsT l))))
def parseN (l : List UInt8) : Net :=
  if okN l then
    if slash l then
      if marked (pre l) then (if bitsT l < 96 then ⟨firstA ⟨true, hi6 (pre l), lo6 (pre l)⟩ (bitsT l).toNat, bitsT l⟩ else makeN (parseA (pre l)) (bitsT l - 96))
      else makeN (parseA (pre l)) (bitsT l)
    else fullN (parseA (pre l))
  else zero
theorem bitsT_bd (l : List UInt8) : 0 ≤ bitsT l ∧ bitsT l ≤ 128 := by
  unfold bitsT parN
  split
  · rename_i h
    have := (parB_iff _ _).1 h
    omega
  · omega
theorem okN_iff (l : List UInt8) : okN l = true ↔ okA (pre l) = true ∧ (slash l = true → parB (post l) 128 = true ∧ (marked (pre l) = false → makeB (parseA (pre l)) (bitsT l) = true)) := by
  unfold okN
  cases okA (pre l) <;> cases slash l <;> cases parB (post l) 128 <;> cases marked (pre l) <;> simp
theorem marked_is {u : List UInt8} (h : marked u = true) : ok6 u = true ∧ ok4 u = false ∧ stands (hi6 u) (lo6 u) = true ∧ parseA u = v6A (hi6 u) (lo6 u) ∧ parseA u = ⟨false, 0, lo6 u % 4294967296⟩ := by
  unfold marked at h
  rw [Bool.and_eq_true, Bool.not_eq_true'] at h
  obtain ⟨h6, hv⟩ := h
  have h4 : ok4 u = false := by
    cases hk : ok4 u
    · rfl
    · rw [ok4_not_ok6 hk] at h6; cases h6
  have hp : parseA u = v6A (hi6 u) (lo6 u) := by unfold parseA; rw [h4, h6]; rfl
  have hs : stands (hi6 u) (lo6 u) = true := by
    rw [hp] at hv
    unfold v6A at hv
    cases e : stands (hi6 u) (lo6 u)
    · rw [e] at hv; cases hv
    · rfl
  exact ⟨h6, h4, hs, hp, by rw [hp]; unfold v6A; rw [if_pos hs]⟩
theorem full_make {a : Adr} (h : rightA a = true) : makeB a (bitsA a : Int) = true := (makeB_iff _ _).2 ⟨h, by omega, by omega⟩
theorem marked_make {u : List UInt8} (h : marked u = true) {i : Int} (h1 : 96 ≤ i) (h2 : i ≤ 128) : makeB (parseA u) (i - 96) = true := by
  obtain ⟨h6, _, _, _, he⟩ := marked_is h
  refine (makeB_iff _ _).2 ⟨parseA_right (by unfold okA; rw [h6]; simp), by omega, ?_⟩
  rw [he]; show i - 96 ≤ ((32 : Nat) : Int); omega
theorem marked_low (hi lo : Nat) {i : Int} (h0 : 0 ≤ i) (h : i < 96) : makeB (firstA ⟨true, hi, lo⟩ i.toNat) i = true ∧ makeN (firstA ⟨true, hi, lo⟩ i.toNat) i = ⟨firstA ⟨true, hi, lo⟩ i.toNat, i⟩ := by
  have hm : makeB (firstA ⟨true, hi, lo⟩ i.toNat) i = true := (makeB_iff _ _).2 ⟨marked_right hi lo (by omega), h0, by rw [bitsA_first]; show i ≤ ((128 : Nat) : Int); omega⟩
  refine ⟨hm, ?_⟩
  unfold makeN
  rw [if_pos hm, first_first, Nat.min_self]
theorem parseN_no {l : List UInt8} (h : okN l = false) : parseN l = zero := by unfold parseN; rw [h]; rfl
theorem parseN_right {l : List UInt8} (h : okN l = true) : rightN (parseN l) = true := by
  obtain ⟨h1, h2⟩ := (okN_iff l).1 h
  unfold parseN
  rw [if_pos h]
  have hb := bitsT_bd l
  cases hs : slash l
  · exact make_right (full_make (parseA_right h1))
  · obtain ⟨_, h4⟩ := h2 hs
    cases hm : marked (pre l)
    · exact make_right (h4 hm)
    · simp only [if_true]
      by_cases h96 : bitsT l < 96
      · rw [if_pos h96, ← (marked_low (hi6 (pre l)) (lo6 (pre l)) hb.1 h96).2]
        exact make_right (marked_low _ _ hb.1 h96).1
      · rw [if_neg h96]
        exact make_right (marked_make hm (by omega) hb.2)
theorem parseN_ok (l : List UInt8) : (parseN l).ok := by
  have hb := bitsT_bd l
  unfold parseN
  split
  · split
    · split
      · split
        · exact ⟨firstA_ok ⟨hi6_lt _, lo6_lt _⟩ _, by show _ ≤ bitsT l; omega, by show bitsT l ≤ _; omega⟩
        · exact makeN_ok (parseA_ok _) _
      · exact makeN_ok (parseA_ok _) _
    · exact makeN_ok (parseA_ok _) _
  · exact ⟨⟨by decide, by decide⟩, by decide, by decide⟩
theorem text_back_marked {a : Adr} (ha : a.ok) (h : rightA a = true) : marked (textA a) = false := by
  obtain ⟨h1, h2⟩ := backA ha h
  unfold marked
  rw [h2]
  cases e : a.v6
  · have : textA a = text4 a.lo := by unfold textA; rw [if_pos h, e]; rfl
    rw [this, ok4_not_ok6 (ok4_text4 _)]; rfl
  · simp
theorem backN {n : Net} (hn : n.ok) (h : rightN n = true) : okN (textN n) = true ∧ parseN (textN n) = n := by
  obtain ⟨h1, h2⟩ := (rightN_iff n).1 h
  obtain ⟨h3, h4, h5⟩ := (makeB_iff _ _).1 h1
  have hb := bitsA_two n.a
  have e : textN n = textA n.a ++ 47 :: text n.n := by unfold textN; rw [if_pos h]
  obtain ⟨p1, p2, p3⟩ := pre_mid (textA_no47 hn.1 h3) (text n.n)
  rw [← e] at p1 p2 p3
  obtain ⟨b1, b2⟩ := backA hn.1 h3
  have hp : parB (text n.n) 128 = true := by rw [parB_text]; simp; omega
  have ht : bitsT (textN n) = n.n := by unfold bitsT; rw [p2, parN_text hp]
  have hm := text_back_marked hn.1 h3
  have hok : okN (textN n) = true := (okN_iff _).2 ⟨by rw [p1]; exact b1, fun _ => ⟨by rw [p2]; exact hp, fun _ => by rw [p1, b2, ht]; exact h1⟩⟩
  refine ⟨hok, ?_⟩
  unfold parseN
  rw [if_pos hok, if_pos p3, p1, hm, b2, ht]
  unfold makeN
  rw [if_pos h1, h2]; rfl
theorem textN_no {n : Net} (h : rightN n = false) : textN n = [] := by unfold textN; rw [h]; rfl
theorem okN_nil : okN [] = false := by decide +kernel
theorem textN_bad {n : Net} (h : rightN n = true) : okA (textN n) = false := by
  cases e : okA (textN n)
  · rfl
  · refine absurd ?_ (okA_no47 e)
    unfold textN
    rw [if_pos h]; simp
theorem textN_len {n : Net} (hn : n.ok) : (textN n).length ≤ 62 := by
  unfold textN
  split
  · have h1 := textA_len n.a
    have h2 := text_len n.n hn.2.1 hn.2.2
    simp; omega
  · simp
end Go.Proofs.Ytgnjbbohphoojaa.Ci
