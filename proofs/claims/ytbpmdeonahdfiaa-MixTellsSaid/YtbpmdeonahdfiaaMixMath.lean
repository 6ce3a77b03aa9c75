/- Of layer 10 (mix), in plain numbers: numbers mixed by a key. -/
namespace Go.Proofs.Ytbpmdeonahdfiaa.Mi
set_option maxRecDepth 100000
/-- A number against itself divided by 2^k. -/
def turned (k x : Nat) : Nat := x ^^^ x / 2 ^ k
def one (x : Nat) : Nat :=
  turned 31 (turned 27 (turned 30 x * 13787848793156543929 % 18446744073709551616) * 10723151780598845931 % 18446744073709551616)
def rot (h : Nat) : Nat := h * 128 % 18446744073709551616 + h / 144115188075855872
def step (h x : Nat) : Nat := one (rot h ^^^ one ((x + 11400714819323198485) % 18446744073709551616))
def mix (key : Nat) (l : List Nat) : Nat := l.foldl step (one ((key + 11400714819323198485) % 18446744073709551616))
def below (h : Nat) (n : Int) : Int := if n < 1 ∨ 2147483648 < n then 0 else ((h / 4294967296 * n.toNat / 4294967296 : Nat) : Int)
theorem xor_lt {a b : Nat} (ha : a < 18446744073709551616) (hb : b < 18446744073709551616) : a ^^^ b < 18446744073709551616 := Nat.xor_lt_two_pow (n := 64) ha hb
theorem mod_lt (a : Nat) : a % 18446744073709551616 < 18446744073709551616 := Nat.mod_lt _ (by decide)
theorem turned_lt {k x : Nat} (h : x < 18446744073709551616) : turned k x < 18446744073709551616 := xor_lt h (Nat.lt_of_le_of_lt (Nat.div_le_self _ _) h)
theorem one_lt (x : Nat) : one x < 18446744073709551616 := turned_lt (mod_lt _)
theorem rot_lt {h : Nat} (hh : h < 18446744073709551616) : rot h < 18446744073709551616 := by unfold rot; omega
theorem step_lt (h x : Nat) : step h x < 18446744073709551616 := one_lt _
theorem xor_zero_eq {a b : Nat} (h : a ^^^ b = 0) : a = b := by
  have : a ^^^ b ^^^ b = b := by rw [h, Nat.zero_xor]
  rwa [Nat.xor_assoc, Nat.xor_self, Nat.xor_zero] at this
theorem xor_right {a b c : Nat} (h : a ^^^ b = a ^^^ c) : b = c := by
  have e : a ^^^ (a ^^^ b) = a ^^^ (a ^^^ c) := by rw [h]
  rwa [← Nat.xor_assoc, ← Nat.xor_assoc, Nat.xor_self, Nat.zero_xor, Nat.zero_xor] at e
theorem turned_one {k x y : Nat} (hk : 0 < k) (h : turned k x = turned k y) : x = y := by
  apply xor_zero_eq
  have e : x ^^^ y = (x ^^^ y) / 2 ^ k := by
    unfold turned at h
    have h2 : (x ^^^ y) / 2 ^ k = x / 2 ^ k ^^^ y / 2 ^ k := by
      rw [← Nat.shiftRight_eq_div_pow, Nat.shiftRight_xor_distrib, Nat.shiftRight_eq_div_pow, Nat.shiftRight_eq_div_pow]
    rw [h2]
    have h3 : (x ^^^ x / 2 ^ k) ^^^ (x / 2 ^ k ^^^ y) = (y ^^^ y / 2 ^ k) ^^^ (x / 2 ^ k ^^^ y) := by rw [h]
    have h4 : (x ^^^ x / 2 ^ k) ^^^ (x / 2 ^ k ^^^ y) = x ^^^ y := by
      rw [Nat.xor_assoc, ← Nat.xor_assoc (x / 2 ^ k), Nat.xor_self, Nat.zero_xor]
    have h5 : (y ^^^ y / 2 ^ k) ^^^ (x / 2 ^ k ^^^ y) = x / 2 ^ k ^^^ y / 2 ^ k := by
      rw [Nat.xor_comm (x / 2 ^ k) y, Nat.xor_comm y, Nat.xor_assoc, ← Nat.xor_assoc y, Nat.xor_self, Nat.zero_xor, Nat.xor_comm]
    rw [← h4, h3, h5]
  have hp : 2 ≤ 2 ^ k := Nat.le_trans (by decide : 2 ≤ 2 ^ 1) (Nat.pow_le_pow_right (by decide) hk)
  by_cases hz : x ^^^ y = 0
  · exact hz
  · have := Nat.div_lt_self (Nat.pos_of_ne_zero hz) hp
    omega
theorem times_one (m i : Nat) (hm : m * i % 18446744073709551616 = 1) {x y : Nat} (hx : x < 18446744073709551616) (hy : y < 18446744073709551616) (h : x * m % 18446744073709551616 = y * m % 18446744073709551616) : x = y := by
  have e : ∀ z, z < 18446744073709551616 → (z * m % 18446744073709551616) * i % 18446744073709551616 = z := fun z hz => by
    rw [Nat.mod_mul_mod, Nat.mul_assoc, ← Nat.mul_mod_mod, hm, Nat.mul_one, Nat.mod_eq_of_lt hz]
  rw [← e x hx, ← e y hy, h]
theorem one_one {x y : Nat} (hx : x < 18446744073709551616) (hy : y < 18446744073709551616) (h : one x = one y) : x = y := by
  unfold one at h
  have h1 := turned_one (by decide) h
  have h2 := times_one 10723151780598845931 3573116690164977347 (by decide) (turned_lt (mod_lt _)) (turned_lt (mod_lt _)) h1
  have h3 := turned_one (by decide) h2
  have h4 := times_one 13787848793156543929 10871156337175269513 (by decide) (turned_lt hx) (turned_lt hy) h3
  exact turned_one (by decide) h4
theorem one_iff {x y : Nat} (hx : x < 18446744073709551616) (hy : y < 18446744073709551616) : one x = one y ↔ x = y := ⟨one_one hx hy, fun h => by rw [h]⟩
theorem step_one {h x y : Nat} (hx : x < 18446744073709551616) (hy : y < 18446744073709551616) (hh : h < 18446744073709551616) (e : step h x = step h y) : x = y := by
  unfold step at e
  have h1 := xor_right (one_one (xor_lt (rot_lt hh) (one_lt _)) (xor_lt (rot_lt hh) (one_lt _)) e)
  have h2 := one_one (mod_lt _) (mod_lt _) h1
  omega
theorem mix_lt (key : Nat) (l : List Nat) : mix key l < 18446744073709551616 := by
  have : ∀ (l : List Nat) (h : Nat), h < 18446744073709551616 → l.foldl step h < 18446744073709551616 := by
    intro l
    induction l with
    | nil => exact fun h hh => hh
    | cons x l ih => intro h _; rw [List.foldl_cons]; exact ih _ (step_lt h x)
  unfold mix
  exact this l _ (one_lt _)
theorem mix_snoc (key : Nat) (l : List Nat) (x : Nat) : mix key (l ++ [x]) = step (mix key l) x := by unfold mix; rw [List.foldl_append, List.foldl_cons, List.foldl_nil]
theorem mix_iff (key : Nat) (l : List Nat) {x y : Nat} (hx : x < 18446744073709551616) (hy : y < 18446744073709551616) : mix key (l ++ [x]) = mix key (l ++ [y]) ↔ x = y := by
  rw [mix_snoc, mix_snoc]
  exact ⟨step_one hx hy (mix_lt _ _), fun h => by rw [h]⟩
/-- Two words side by side, put together by exclusive 'or' or by 'or'. -/
theorem rot_or {h : Nat} (hh : h < 18446744073709551616) : h * 128 % 18446744073709551616 ||| h / 144115188075855872 = rot h := by
  have e : h * 128 % 18446744073709551616 = (h % 144115188075855872) <<< 7 := by rw [Nat.shiftLeft_eq]; omega
  rw [e, ← Nat.shiftLeft_add_eq_or_of_lt (by omega : h / 144115188075855872 < 2 ^ 7), ← e]
  rfl
theorem below_pos (h : Nat) (n : Int) : 0 ≤ below h n := by unfold below; split <;> omega
theorem below_is {h : Nat} {n : Int} (h1 : 1 ≤ n) (h2 : n ≤ 2147483648) : below h n = ((h / 4294967296 * n.toNat / 4294967296 : Nat) : Int) := by unfold below; rw [if_neg (by omega)]
theorem below_out {h : Nat} {n : Int} (h1 : n < 1 ∨ 2147483648 < n) : below h n = 0 := by unfold below; rw [if_pos h1]
theorem prod_le {a n : Nat} (ha : a < 4294967296) : a * n ≤ 4294967295 * n := Nat.mul_le_mul_right n (by omega)
theorem below_lt {h : Nat} {n : Int} (hh : h < 18446744073709551616) (h1 : 1 ≤ n) (h2 : n ≤ 2147483648) : below h n < n := by
  rw [below_is h1 h2]
  have := prod_le (a := h / 4294967296) (n := n.toNat) (by omega)
  generalize h / 4294967296 * n.toNat = p at *
  omega
theorem below_mono {g h : Nat} {n : Int} (hgh : g ≤ h) : below g n ≤ below h n := by
  unfold below
  split
  · exact Int.le_refl _
  · have := Nat.mul_le_mul_right n.toNat (Nat.div_le_div_right (c := 4294967296) hgh)
    have := Nat.div_le_div_right (c := 4294967296) this
    omega
end Go.Proofs.Ytbpmdeonahdfiaa.Mi
