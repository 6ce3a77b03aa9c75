/- Plain mathematics of digits: what a number is written as, and what digits stand for. Imports nothing of the dump. -/
import Derived.WalkKit
namespace Go.Proofs.YtokbifndhkijiaaDoor.Dec
theorem snocRec {α : Type} {P : List α → Prop} (nil : P []) (snoc : ∀ l c, P l → P (l ++ [c])) (l : List α) : P l := by
  have h : ∀ m : List α, P m.reverse := by
    intro m
    induction m with
    | nil => exact nil
    | cons c m ih => rw [List.reverse_cons]; exact snoc _ _ ih
  have := h l.reverse
  rwa [List.reverse_reverse] at this
/-- The digit of a number below 16. -/
def digit (d : Nat) : UInt8 := if d < 10 then UInt8.ofNat (48 + d) else UInt8.ofNat (87 + d)
/-- What a digit stands for; 16 for any other byte. -/
def dv (c : UInt8) : Nat := if 48 ≤ c.toNat ∧ c.toNat ≤ 57 then c.toNat - 48 else if 97 ≤ c.toNat ∧ c.toNat ≤ 102 then c.toNat - 87 else if 65 ≤ c.toNat ∧ c.toNat ≤ 70 then c.toNat - 55 else 16
theorem dv_le (c : UInt8) : dv c ≤ 16 := by unfold dv; repeat (first | split | omega)
theorem dv_digit {d : Nat} (h : d < 16) : dv (digit d) = d := by
  have : ∀ d : Fin 16, dv (digit d.val) = d.val := by decide
  exact this ⟨d, h⟩
/-- Digits of base b, the greatest first. -/
def digsF : Nat → Nat → Nat → List UInt8
  | 0, _, n => [digit n]
  | f + 1, b, n => if n < b then [digit n] else digsF f b (n / b) ++ [digit (n % b)]
def digs (b n : Nat) : List UInt8 := digsF n b n
theorem digsF_eq (b : Nat) (hb : 2 ≤ b) : ∀ f g n, n ≤ f → n ≤ g → digsF f b n = digsF g b n
  | 0, 0, _, _, _ => rfl
  | 0, g + 1, n, hf, _ => by
    have : n = 0 := by omega
    subst this
    rw [digsF, digsF, if_pos (by omega)]
  | f + 1, 0, n, _, hg => by
    have : n = 0 := by omega
    subst this
    rw [digsF, digsF, if_pos (by omega)]
  | f + 1, g + 1, n, hf, hg => by
    rw [digsF, digsF]
    by_cases h : n < b
    · rw [if_pos h, if_pos h]
    · have : n / b < n := Nat.div_lt_self (by omega) (by omega)
      rw [if_neg h, if_neg h, digsF_eq b hb f g (n / b) (by omega) (by omega)]
theorem digs_lo {b n : Nat} (h : n < b) : digs b n = [digit n] := by
  unfold digs
  cases n with
  | zero => rfl
  | succ n => rw [digsF, if_pos h]
theorem digs_hi {b n : Nat} (hb : 2 ≤ b) (h : b ≤ n) : digs b n = digs b (n / b) ++ [digit (n % b)] := by
  unfold digs
  cases n with
  | zero => omega
  | succ n =>
    have : (n + 1) / b < n + 1 := Nat.div_lt_self (by omega) (by omega)
    rw [digsF, if_neg (by omega), digsF_eq b hb n ((n + 1) / b) _ (by omega) (by omega)]
theorem digs_ne (b n : Nat) : digs b n ≠ [] := by
  unfold digs
  cases n with
  | zero => simp [digsF]
  | succ n => rw [digsF]; split <;> simp
/-- Enough figures: k digits hold what is below b^k. -/
theorem digs_len {b : Nat} (hb : 2 ≤ b) : ∀ (k n : Nat), n < b ^ (k + 1) → (digs b n).length ≤ k + 1
  | 0, n, h => by rw [digs_lo (by simpa using h)]; simp
  | k + 1, n, h => by
    by_cases hn : n < b
    · rw [digs_lo hn]; simp
    · have : n / b < b ^ (k + 1) := Nat.div_lt_of_lt_mul (by rw [Nat.pow_succ, Nat.mul_comm] at h; exact h)
      have := digs_len hb k (n / b) this
      rw [digs_hi hb (by omega)]; simp; omega
/-- The value of digits. -/
def valb (b : Nat) (l : List UInt8) : Nat := l.foldl (fun a c => a * b + dv c) 0
theorem valb_nil (b : Nat) : valb b [] = 0 := rfl
theorem valb_snoc (b : Nat) (l : List UInt8) (c : UInt8) : valb b (l ++ [c]) = valb b l * b + dv c := by simp [valb, List.foldl_append]
theorem valb_digs {b : Nat} (hb : 2 ≤ b) (h16 : b ≤ 16) (n : Nat) : valb b (digs b n) = n := by
  induction n using Nat.strongRecOn with
  | _ n ih =>
    by_cases h : n < b
    · rw [digs_lo h]; simp [valb, dv_digit (show n < 16 by omega)]
    · have h1 : n / b < n := Nat.div_lt_self (by omega) (by omega)
      have h2 : n % b < b := Nat.mod_lt _ (by omega)
      rw [digs_hi hb (by omega), valb_snoc, ih _ h1, dv_digit (by omega), Nat.mul_comm]
      exact Nat.div_add_mod n b
theorem digs_all {b : Nat} (hb : 2 ≤ b) (h16 : b ≤ 16) (n : Nat) : ∀ c ∈ digs b n, dv c < b := by
  induction n using Nat.strongRecOn with
  | _ n ih =>
    by_cases h : n < b
    · rw [digs_lo h]; simp [dv_digit (show n < 16 by omega)]; exact h
    · have h1 : n / b < n := Nat.div_lt_self (by omega) (by omega)
      have h2 : n % b < b := Nat.mod_lt _ (by omega)
      rw [digs_hi hb (by omega)]
      intro c hc
      rcases List.mem_append.1 hc with hc | hc
      · exact ih _ h1 c hc
      · simp at hc; subst hc; rw [dv_digit (by omega)]; exact h2
theorem valb_lt {b : Nat} (l : List UInt8) (h : ∀ c ∈ l, dv c < b) : valb b l < b ^ l.length := by
  induction l using snocRec with
  | nil => simp [valb]
  | snoc l c ih =>
    have h1 := ih (fun x hx => h x (by simp [hx]))
    have h2 := h c (by simp)
    rw [valb_snoc, List.length_append, List.length_singleton, Nat.pow_succ]
    have h3 : (valb b l + 1) * b ≤ b ^ l.length * b := Nat.mul_le_mul_right b h1
    rw [Nat.add_mul] at h3; omega
theorem valb_mono {b : Nat} (hb : 1 ≤ b) (l m : List UInt8) : valb b l ≤ valb b (l ++ m) := by
  induction m using snocRec with
  | nil => simp
  | snoc m c ih =>
    rw [← List.append_assoc, valb_snoc]
    have : valb b (l ++ m) * 1 ≤ valb b (l ++ m) * b := Nat.mul_le_mul_left _ hb
    omega
theorem valb_take {b : Nat} (hb : 1 ≤ b) (l : List UInt8) (k : Nat) : valb b (l.take k) ≤ valb b l := by
  have := valb_mono hb (l.take k) (l.drop k)
  rwa [List.take_append_drop] at this
/-- A text of digits to base 10 with no zero that leads. -/
def okDec (l : List UInt8) : Bool := !l.isEmpty && (decide (l.length ≤ 1) || !(l.head? == some 48)) && l.all (fun c => decide (dv c < 10))
theorem dv_lt10 {c : UInt8} (h : dv c < 10) : digit (dv c) = c := by
  have : ∀ c : Fin 256, dv (UInt8.ofNat c.val) < 10 → digit (dv (UInt8.ofNat c.val)) = UInt8.ofNat c.val := by decide +kernel
  have h1 := this ⟨c.toNat, c.toNat_lt⟩
  simp only [UInt8.ofNat_toNat] at h1
  exact h1 h
theorem dv_zero {c : UInt8} (h : dv c = 0) : c = 48 := by
  have : ∀ c : Fin 256, dv (UInt8.ofNat c.val) = 0 → UInt8.ofNat c.val = 48 := by decide +kernel
  have h1 := this ⟨c.toNat, c.toNat_lt⟩
  simp only [UInt8.ofNat_toNat] at h1
  exact h1 h
theorem okDec_iff (l : List UInt8) : okDec l = true ↔ l ≠ [] ∧ (l.length ≤ 1 ∨ l.head? ≠ some 48) ∧ ∀ c ∈ l, dv c < 10 := by
  unfold okDec
  cases l <;> simp
theorem okDec_pos {l : List UInt8} (h : okDec l = true) (h2 : 2 ≤ l.length) : 10 ^ (l.length - 1) ≤ valb 10 l := by
  obtain ⟨h0, h1, h3⟩ := (okDec_iff l).1 h
  cases l with
  | nil => exact absurd rfl h0
  | cons c m =>
    have hc : c ≠ 48 := by
      rcases h1 with h1 | h1
      · omega
      · simpa using h1
    have hd : 1 ≤ dv c := by
      rcases Nat.eq_zero_or_pos (dv c) with e | e
      · exact absurd (dv_zero e) hc
      · exact e
    clear h h0 h1 h2 h3
    induction m using snocRec with
    | nil => simpa [valb] using hd
    | snoc m x ih =>
      rw [← List.cons_append, valb_snoc]
      have : (c :: m ++ [x]).length - 1 = ((c :: m).length - 1) + 1 := by simp
      rw [this, Nat.pow_succ]
      have := Nat.mul_le_mul_right 10 ih
      omega
theorem digs_valb {l : List UInt8} (h : okDec l = true) : digs 10 (valb 10 l) = l := by
  obtain ⟨h0, h1, h3⟩ := (okDec_iff l).1 h
  clear h
  induction l using snocRec with
  | nil => exact absurd rfl h0
  | snoc m x ih =>
    have hx := h3 x (by simp)
    by_cases hm : m = []
    · subst hm
      simp only [List.nil_append, valb, List.foldl_cons, List.foldl_nil, Nat.zero_mul, Nat.zero_add]
      rw [digs_lo hx, dv_lt10 hx]
    · have hl : 1 ≤ m.length := by cases m with | nil => exact absurd rfl hm | cons _ _ => simp
      have hh : m.head? ≠ some 48 := by
        rcases h1 with h1 | h1
        · rw [List.length_append, List.length_singleton] at h1; omega
        · cases m with | nil => exact absurd rfl hm | cons a t => simpa using h1
      have hok : okDec m = true := (okDec_iff m).2 ⟨hm, Or.inr hh, fun c hc => h3 c (by simp [hc])⟩
      have e := ih hm (Or.inr hh) (fun c hc => h3 c (by simp [hc]))
      have hp : 1 ≤ valb 10 m := by
        by_cases h2 : 2 ≤ m.length
        · have := okDec_pos hok h2
          have : 0 < 10 ^ (m.length - 1) := Nat.pow_pos (by omega)
          omega
        · cases m with
          | nil => exact absurd rfl hm
          | cons a t =>
            cases t with
            | cons _ _ => simp at h2
            | nil =>
              rcases Nat.eq_zero_or_pos (dv a) with e2 | e2
              · exact absurd (by rw [dv_zero e2]; rfl) hh
              · simp [valb]; omega
      rw [valb_snoc, digs_hi (by omega) (by omega)]
      have e1 : (valb 10 m * 10 + dv x) / 10 = valb 10 m := by omega
      have e2 : (valb 10 m * 10 + dv x) % 10 = dv x := by omega
      rw [e1, e2, e, dv_lt10 hx]
theorem digs_pos_head {n : Nat} (hn : 0 < n) : (digs 10 n).head? ≠ some 48 := by
  induction n using Nat.strongRecOn with
  | _ n ih =>
    by_cases h : n < 10
    · rw [digs_lo h]
      simp only [List.head?_cons]
      intro e
      have := dv_digit (show n < 16 by omega)
      injection e with e
      rw [e] at this
      have h0 : dv 48 = 0 := by decide
      omega
    · rw [digs_hi (by omega) (by omega)]
      have h1 := ih (n / 10) (Nat.div_lt_self (by omega) (by omega)) (by omega)
      have h2 := digs_ne 10 (n / 10)
      cases hd : digs 10 (n / 10) with
      | nil => exact absurd hd h2
      | cons a t => rw [hd] at h1; simpa using h1
theorem okDec_digs (n : Nat) : okDec (digs 10 n) = true := by
  rw [okDec_iff]
  refine ⟨digs_ne _ _, ?_, digs_all (by omega) (by omega) n⟩
  rcases Nat.eq_zero_or_pos n with h | h
  · left; subst h; rw [digs_lo (by omega)]; simp
  · right; exact digs_pos_head h
/-- A number's text. -/
def text (n : Int) : List UInt8 := if n < 0 then 45 :: digs 10 n.natAbs else digs 10 n.natAbs
theorem okDec_text {n : Int} (h : n < 0) : okDec (text n) = false := by
  unfold text
  rw [if_pos h]
  cases hk : okDec (45 :: digs 10 n.natAbs)
  · rfl
  · have := ((okDec_iff _).1 hk).2.2 45 (by simp)
    exact absurd this (by decide)
theorem text_len (n : Int) (h0 : -9223372036854775808 ≤ n) (h1 : n ≤ 9223372036854775807) : (text n).length ≤ 21 := by
  have hl := digs_len (b := 10) (by omega) 19 n.natAbs (by
    have : (10 : Nat) ^ 20 = 100000000000000000000 := by decide
    omega)
  unfold text
  split <;> simp <;> omega
def parB (l : List UInt8) (most : Int) : Bool := okDec l && decide ((valb 10 l : Int) ≤ most)
def parN (l : List UInt8) (most : Int) : Int := if parB l most then (valb 10 l : Int) else 0
theorem parN_of {l : List UInt8} {most : Int} (h : parB l most = true) : parN l most = valb 10 l := by unfold parN; rw [if_pos h]
theorem parN_no {l : List UInt8} {most : Int} (h : parB l most = false) : parN l most = 0 := by unfold parN; rw [h]; rfl
theorem parB_iff (l : List UInt8) (most : Int) : parB l most = true ↔ okDec l = true ∧ (valb 10 l : Int) ≤ most := by unfold parB; simp
theorem parB_bad {l : List UInt8} {c : UInt8} (most : Int) (hc : c ∈ l) (h : 10 ≤ dv c) : parB l most = false := by
  cases e : parB l most
  · rfl
  · have := ((okDec_iff l).1 ((parB_iff l most).1 e).1).2.2 c hc; omega
theorem parB_over {l : List UInt8} {most : Int} (k : Nat) (h : most < valb 10 (l.take k)) : parB l most = false := by
  cases e : parB l most
  · rfl
  · have h1 := ((parB_iff l most).1 e).2
    have h2 := valb_take (b := 10) (by omega) l k; omega
theorem parB_nil {l : List UInt8} (most : Int) (h : l = []) : parB l most = false := by subst h; rfl
theorem parB_zero {l : List UInt8} (most : Int) (h : 1 < l.length) (h0 : l.head? = some 48) : parB l most = false := by
  cases e : parB l most
  · rfl
  · rcases ((okDec_iff l).1 ((parB_iff l most).1 e).1).2.1 with h1 | h1
    · omega
    · exact absurd h0 h1
theorem parB_yes {l : List UInt8} {most : Int} (h1 : 1 ≤ l.length) (h2 : l.length ≤ 1 ∨ l.head? ≠ some 48) (h3 : ∀ c ∈ l, dv c < 10) (h4 : (valb 10 l : Int) ≤ most) : parB l most = true :=
  (parB_iff l most).2 ⟨(okDec_iff l).2 ⟨by intro e; subst e; simp at h1, h2, h3⟩, h4⟩
theorem dv_dec (c : UInt8) : dv c < 10 ↔ 48 ≤ c.toNat ∧ c.toNat ≤ 57 := by
  unfold dv
  by_cases h1 : 48 ≤ c.toNat ∧ c.toNat ≤ 57
  · rw [if_pos h1]; omega
  · rw [if_neg h1]
    by_cases h2 : 97 ≤ c.toNat ∧ c.toNat ≤ 102
    · rw [if_pos h2]; omega
    · rw [if_neg h2]
      by_cases h3 : 65 ≤ c.toNat ∧ c.toNat ≤ 70
      · rw [if_pos h3]; omega
      · rw [if_neg h3]; omega
theorem dv_of {c : UInt8} (h1 : 48 ≤ c.toNat) (h2 : c.toNat ≤ 57) : dv c = c.toNat - 48 := by unfold dv; rw [if_pos ⟨h1, h2⟩]
theorem parB_long {l : List UInt8} {most : Int} (h : 19 < l.length) (hm : most ≤ 9223372036854775807) : parB l most = false := by
  cases e : parB l most
  · rfl
  · obtain ⟨h1, h2⟩ := (parB_iff l most).1 e
    have h3 := okDec_pos h1 (by omega)
    have h4 : (10 : Nat) ^ 19 ≤ 10 ^ (l.length - 1) := Nat.pow_le_pow_right (by omega) (by omega)
    have h5 : (10 : Nat) ^ 19 = 10000000000000000000 := by decide
    omega
theorem val_lt19 {l : List UInt8} (h : ∀ c ∈ l, dv c < 10) (hk : l.length ≤ 19) : valb 10 l < 10000000000000000000 := by
  have h1 := valb_lt (b := 10) l h
  have h2 : 10 ^ l.length ≤ 10 ^ 19 := Nat.pow_le_pow_right (by omega) hk
  have h5 : (10 : Nat) ^ 19 = 10000000000000000000 := by decide
  omega
theorem parB_digs {l : List UInt8} {most : Int} (h : digs 10 (valb 10 l) ≠ l) : parB l most = false := by
  cases e : parB l most
  · rfl
  · exact absurd (digs_valb ((parB_iff l most).1 e).1) h
theorem parB_more {l : List UInt8} {most : Int} (h : most < valb 10 l) : parB l most = false := by
  cases e : parB l most
  · rfl
  · have := ((parB_iff l most).1 e).2; omega
theorem parB_same {l : List UInt8} {most : Int} (h : digs 10 (valb 10 l) = l) (h2 : (valb 10 l : Int) ≤ most) : parB l most = true :=
  (parB_iff l most).2 ⟨by rw [← h]; exact okDec_digs _, h2⟩
/-- De3: what was written is read. -/
theorem parB_text (n most : Int) : parB (text n) most = (decide (0 ≤ n) && decide (n ≤ most)) := by
  by_cases h : n < 0
  · unfold parB; rw [okDec_text h]; simp; omega
  · unfold parB text
    rw [if_neg h, okDec_digs, valb_digs (by omega) (by omega)]
    have e : ((n.natAbs : Nat) : Int) = n := by omega
    rw [e]; simp; omega
theorem parN_text {n most : Int} (h : parB (text n) most = true) : parN (text n) most = n := by
  have h1 := parB_text n most
  rw [h] at h1
  have h2 : 0 ≤ n := by
    have := h1.symm
    simp at this; exact this.1
  rw [parN_of h]
  unfold text
  rw [if_neg (by omega), valb_digs (by omega) (by omega)]; omega
theorem text_parN {l : List UInt8} {most : Int} (h : parB l most = true) : text (parN l most) = l := by
  rw [parN_of h]
  unfold text
  rw [if_neg (by omega), Int.natAbs_natCast]
  exact digs_valb ((parB_iff _ _).1 h).1
theorem parN_bd (l : List UInt8) (most : Int) (h0 : -9223372036854775808 ≤ most) (h1 : most ≤ 9223372036854775807) : 0 ≤ parN l most ∧ parN l most ≤ 9223372036854775807 := by
  cases e : parB l most
  · rw [parN_no e]; omega
  · have := ((parB_iff l most).1 e).2
    rw [parN_of e]; omega
/-- Digits of base 16. -/
def hexB (l : List UInt8) : Bool := decide (1 ≤ l.length) && decide (l.length ≤ 4) && l.all (fun c => decide (dv c < 16))
def hexN (l : List UInt8) : Int := if hexB l then (valb 16 l : Int) else 0
def hex (n : Int) : List UInt8 := if n < 0 ∨ 65535 < n then [] else digs 16 n.natAbs
theorem hexB_iff (l : List UInt8) : hexB l = true ↔ 1 ≤ l.length ∧ l.length ≤ 4 ∧ ∀ c ∈ l, dv c < 16 := by unfold hexB; simp [and_assoc]
theorem hexB_bad {l : List UInt8} {c : UInt8} (hc : c ∈ l) (h : 16 ≤ dv c) : hexB l = false := by
  cases e : hexB l
  · rfl
  · have := ((hexB_iff l).1 e).2.2 c hc; omega
theorem hexB_len {l : List UInt8} (h : l.length < 1 ∨ 4 < l.length) : hexB l = false := by
  cases e : hexB l
  · rfl
  · have := (hexB_iff l).1 e; omega
theorem val_lt4 {l : List UInt8} (h : ∀ c ∈ l, dv c < 16) (k : Nat) (hk : l.length ≤ k) : valb 16 l < 16 ^ k :=
  Nat.lt_of_lt_of_le (valb_lt l h) (Nat.pow_le_pow_right (by omega) hk)
theorem hexN_of {l : List UInt8} (h : hexB l = true) : hexN l = valb 16 l := by unfold hexN; rw [if_pos h]
theorem hexN_no {l : List UInt8} (h : hexB l = false) : hexN l = 0 := by unfold hexN; rw [h]; rfl
theorem hexN_bd (l : List UInt8) : 0 ≤ hexN l ∧ hexN l ≤ 65535 := by
  cases h : hexB l
  · rw [hexN_no h]; omega
  · rw [hexN_of h]
    obtain ⟨_, h2, h3⟩ := (hexB_iff l).1 h
    have := valb_lt (b := 16) l h3
    have h4 : 16 ^ l.length ≤ 16 ^ 4 := Nat.pow_le_pow_right (by omega) h2
    have h5 : (16 : Nat) ^ 4 = 65536 := by decide
    omega
theorem hexB_hex (n : Int) : hexB (hex n) = (decide (0 ≤ n) && decide (n ≤ 65535)) := by
  unfold hex
  by_cases h : n < 0 ∨ 65535 < n
  · rw [if_pos h]; simp [hexB]; omega
  · rw [if_neg h]
    have h1 := digs_len (b := 16) (by omega) 3 n.natAbs (by simp; omega)
    have h2 := digs_ne 16 n.natAbs
    have h3 : 1 ≤ (digs 16 n.natAbs).length := by
      cases hd : digs 16 n.natAbs with
      | nil => exact absurd hd h2
      | cons _ _ => simp
    rw [(hexB_iff _).2 ⟨h3, h1, digs_all (by omega) (by omega) _⟩]
    simp; omega
theorem hex_len (n : Int) : (hex n).length ≤ 4 := by
  unfold hex
  split
  · simp
  · exact digs_len (b := 16) (by omega) 3 n.natAbs (by simp; omega)
theorem hexN_hex {n : Int} (h : hexB (hex n) = true) : hexN (hex n) = n := by
  have h1 := hexB_hex n
  rw [h] at h1
  have h2 : 0 ≤ n ∧ n ≤ 65535 := by
    have := h1.symm
    simp at this; exact this
  rw [hexN_of h]
  unfold hex
  rw [if_neg (by omega), valb_digs (by omega) (by omega)]; omega
end Go.Proofs.YtokbifndhkijiaaDoor.Dec
