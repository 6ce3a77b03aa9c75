/- Of layer 10 (mix), in plain numbers: numbers mixed by a key. -/
import Derived.Test.YtgnjbbohphoojaaKit
import Derived.Laws.BitsAll
import Derived.Test.YtgnjbbohphoojaaCidrAll
import Derived.Deep.RegionHeld3
import Derived.Test.YtgnjbbohphoojaaDoor
import Derived.OwnWalk
import Derived.Laws.OwnMore
import Derived.Below
namespace Go.Proofs.Ytgnjbbohphoojaa.Mi
set_option maxRecDepth 100000
/-- A number against itself divided by 2^k. -/
def turned (k x : Nat) : Nat := x ^^^ x / 2 ^ k
def one (x : Nat) : Nat :=
  turned 31 (turned 27 (turned 30 x * 13787848793156543929 % 18446744073709551616) * 10723151780598845931 % 18446744073709551616)
def rot (h : Nat) : Nat := h * 128 % 18446744073709551616 + h / 144115188075855872
def step (h x : Nat) : Nat := one (rot h ^^^ one ((x + 11400714819323198485) % 18446744073709551616))
def mix (key : Nat) (l : List Nat) : Nat := l.foldl step (one ((key + 11400714819323198485) % 18446744073709551616))
def below (h : Nat) (n : Int) : Int := if n < 1 ∨ 2147483648 < n then 0 else ((h / 4294967296 * n.toNat / 4294967296 : Nat) : Int)
theorem xor_lt {a b : Nat} (ha : a < 18446744073709551616) (hb : b < 18446744073709551616) : a ^^^ b < 18446744073709551616 := Nat.xor_lt_two_pow (n := 64) ha hb
theorem mod_lt (a : Nat) : a % 18446744073709551616 < 18446744073709551616 := Nat.mod_lt _ (by decide)
theorem turned_lt {k x : Nat} (h : x < 18446744073709551616) : turned k x < 18446744073709551616 := xor_lt h (Nat.lt_of_le_of_lt (Nat.div_le_self _ _) h)
theorem one_lt (x : Nat) : one x < 18446744073709551616 := turned_lt (mod_lt _)
theorem rot_lt {h : Nat} (hh : h < 18446744073709551616) : rot h < 18446744073709551616 := by unfold rot; omega
theorem step_lt (h x : Nat) : step h x < 18446744073709551616 := one_lt _
theorem xor_zero_eq {a b : Nat} (h : a ^^^ b = 0) : a = b := by
  have : a ^^^ b ^^^ b = b := by rw [h, Nat.zero_xor]
  rwa [Nat.xor_assoc, Nat.xor_self, Nat.xor_zero] at this
theorem xor_right {a b c : Nat} (h : a ^^^ b = a ^^^ c) : b = c := by
  have e : a ^^^ (a ^^^ b) = a ^^^ (a ^^^ c) := by rw [h]
  rwa [← Nat.xor_assoc, ← Nat.xor_assoc, Nat.xor_self, Nat.zero_xor, Nat.zero_xor] at e
theorem turned_one {k x y : Nat} (hk : 0 < k) (h : turned k x = turned k y) : x = y := by
  apply xor_zero_eq
  have e : x ^^^ y = (x ^^^ y) / 2 ^ k := by
    unfold turned at h
    have h2 : (x ^^^ y) / 2 ^ k = x / 2 ^ k ^^^ y / 2 ^ k := by
      rw [← Nat.shiftRight_eq_div_pow, Nat.shiftRight_xor_distrib, Nat.shiftRight_eq_div_pow, Nat.shiftRight_eq_div_pow]
    rw [h2]
    have h3 : (x ^^^ x / 2 ^ k) ^^^ (x / 2 ^ k ^^^ y) = (y ^^^ y / 2 ^ k) ^^^ (x / 2 ^ k ^^^ y) := by rw [h]
    have h4 : (x ^^^ x / 2 ^ k) ^^^ (x / 2 ^ k ^^^ y) = x ^^^ y := by
      rw [Nat.xor_assoc, ← Nat.xor_assoc (x / 2 ^ k), Nat.xor_self, Nat.zero_xor]
    have h5 : (y ^^^ y / 2 ^ k) ^^^ (x / 2 ^ k ^^^ y) = x / 2 ^ k ^^^ y / 2 ^ k := by
      rw [Nat.xor_comm (x / 2 ^ k) y, Nat.xor_comm y, Nat.xor_assoc, ← Nat.xor_assoc y, Nat.xor_self, Nat.zero_xor, Nat.xor_comm]
    rw [← h4, h3, h5]
  have hp : 2 ≤ 2 ^ k := Nat.le_trans (by decide : 2 ≤ 2 ^ 1) (Nat.pow_le_pow_right (by decide) hk)
  by_cases hz : x ^^^ y = 0
  · exact hz
  · have := Nat.div_lt_self (Nat.pos_of_ne_zero hz) hp
    omega
theorem times_one (m i : Nat) (hm : m * i % 18446744073709551616 = 1) {x y : Nat} (hx : x < 18446744073709551616) (hy : y < 18446744073709551616) (h : x * m % 18446744073709551616 = y * m % 18446744073709551616) : x = y := by
  have e : ∀ z, z < 18446744073709551616 → (z * m % 18446744073709551616) * i % 18446744073709551616 = z := fun z hz => by
    rw [Nat.mod_mul_mod, Nat.mul_assoc, ← Nat.mul_mod_mod, hm, Nat.mul_one, Nat.mod_eq_of_lt hz]
  rw [← e x hx, ← e y hy, h]
theorem one_one {x y : Nat} (hx : x < 18446744073709551616) (hy : y < 18446744073709551616) (h : one x = one y) : x = y := by
  unfold one at h
  have h1 := turned_one (by decide) h
  have h2 := times_one 10723151780598845931 3573116690164977347 (by decide) (turned_lt (mod_lt _)) (turned_lt (mod_lt _)) h1
  have h3 := turned_one (by decide) h2
  have h4 := times_one 13787848793156543929 10871156337175269513 (by decide) (turned_lt hx) (turned_lt hy) h3
  exact turned_one (by decide) h4
theorem one_iff {x y : Nat} (hx : x < 18446744073709551616) (hy : y < 18446744073709551616) : one x = one y ↔ x = y := ⟨one_one hx hy, fun h => by rw [h]⟩
theorem step_one {h x y : Nat} (hx : x < 18446744073709551616) (hy : y < 18446744073709551616) (hh : h < 18446744073709551616) (e : step h x = step h y) : x = y := by
  unfold step at e
  have h1 := xor_right (one_one (xor_lt (rot_lt hh) (one_lt _)) (xor_lt (rot_lt hh) (one_lt _)) e)
  have h2 := one_one (mod_lt _) (mod_lt _) h1
  omega
theorem mix_lt (key : Nat) (l : List Nat) : mix key l < 18446744073709551616 := by
  have : ∀ (l : List Nat) (h : Nat), h < 18446744073709551616 → l.foldl step h < 18446744073709551616 := by
    intro l
    induction l with
    | nil => exact fun h hh => hh
    | cons x l ih => intro h _; rw [List.foldl_cons]; exact ih _ (step_lt h x)
  unfold mix
  exact this l _ (one_lt _)
theorem mix_snoc (key : Nat) (l : List Nat) (x : Nat) : mix key (l ++ [x]) = step (mix key l) x := by unfold mix; rw [List.foldl_append, List.foldl_cons, List.foldl_nil]
theorem mix_iff (key : Nat) (l : List Nat) {x y : Nat} (hx : x < 18446744073709551616) (hy : y < 18446744073709551616) : mix key (l ++ [x]) = mix key (l ++ [y]) ↔ x = y := by
  rw [mix_snoc, mix_snoc]
  exact ⟨step_one hx hy (mix_lt _ _), fun h => by rw [h]⟩
/-- Two words side by side, put together by exclusive 'or' or by 'or'. -/
theorem rot_or {h : Nat} (hh : h < 18446744073709551616) : h * 128 % 18446744073709551616 ||| h / 144115188075855872 = rot h := by
  have e : h * 128 % 18446744073709551616 = (h % 144115188075855872) <<< 7 := by rw [Nat.shiftLeft_eq]; omega
  rw [e, ← Nat.shiftLeft_add_eq_or_of_lt (by omega : h / 144115188075855872 < 2 ^ 7), ← e]
  rfl
theorem below_pos (h : Nat) (n : Int) : 0 ≤ below h n := by unfold below; split <;> omega
theorem below_is {h : Nat} {n : Int} (h1 : 1 ≤ n) (h2 : n ≤ 2147483648) : below h n = ((h / 4294967296 * n.toNat / 4294967296 : Nat) : Int) := by unfold below; rw [if_neg (by omega)]
theorem below_out {h : Nat} {n : Int} (h1 : n < 1 ∨ 2147483648 < n) : below h n = 0 := by unfold below; rw [if_pos h1]
theorem prod_le {a n : Nat} (ha : a < 4294967296) : a * n ≤ 4294967295 * n := Nat.mul_le_mul_right n (by omega)
theorem below_lt {h : Nat} {n : Int} (hh : h < 18446744073709551616) (h1 : 1 ≤ n) (h2 : n ≤ 2147483648) : below h n < n := by
  rw [below_is h1 h2]
  have := prod_le (a := h / 4294967296) (n := n.toNat) (by omega)
  generalize h / 4294967296 * n.toNat = p at *
  omega
theorem below_mono {g h : Nat} {n : Int} (hgh : g ≤ h) : below g n ≤ below h n := by
  unfold below
  split
  · exact Int.le_refl _
  · have := Nat.mul_le_mul_right n.toNat (Nat.div_le_div_right (c := 4294967296) hgh)
    have := Nat.div_le_div_right (c := 4294967296) this
    omega
end Go.Proofs.Ytgnjbbohphoojaa.Mi
/- Contracts of package mix, and of the document's own answers for layer 10. Numbers in memory. -/
namespace Go.Proofs.Ytgnjbbohphoojaa
set_option maxRecDepth 100000
open Go.ChangeShapes Go.WideShapes Go.ChangeAt Go.RowKit
/-- The value v is a slice that reads as these numbers. -/
def Nums (w : World) (v : Value) (ls : List Nat) : Prop :=
  ∃ A c, v = .slice A ls.length c ∧ ls.length ≤ c ∧ (A = none → c = 0) ∧ (0 < ls.length → ∃ b o, A = some ⟨b, o, none⟩ ∧ b < w.heap.size ∧ ∀ j (h : j < ls.length), w.cell? ⟨b, o + j, none⟩ = some (.int .u64 (ls[j] : Nat)))
theorem Nums.below {w w1 : World} {v : Value} {ls : List Nat} (h : Nums w v ls) (hb : Below w.heap.size w w1) : Nums w1 v ls := by
  obtain ⟨A, c, h1, h2, h0, h3⟩ := h
  refine ⟨A, c, h1, h2, h0, fun hp => ?_⟩
  obtain ⟨b, o, e, hlt, hc⟩ := h3 hp
  exact ⟨b, o, e, Nat.lt_of_lt_of_le hlt hb.size, fun j hj => (hb.cell (p := ⟨b, o + j, none⟩) hlt).trans (hc j hj)⟩
theorem Nums.nil (w : World) : Nums w (.slice none 0 0) [] := ⟨none, 0, rfl, Nat.le_refl _, fun _ => rfl, fun h => absurd h (by simp)⟩
/-- A list that was just written out, as for a call of many arguments. -/
theorem Nums.lit (w : World) (ls : List Nat) (cs : Array Value) (e : TypeId) (h : cs.toList = ls.map fun l => Value.int .u64 (l : Nat)) : Nums (w.alloc (.cells cs e)) (.slice (some ⟨w.heap.size, 0, none⟩) ls.length ls.length) ls := by
  refine ⟨some ⟨w.heap.size, 0, none⟩, ls.length, rfl, Nat.le_refl _, fun h => by simp at h, fun _ => ⟨w.heap.size, 0, rfl, by simp, fun j hj => ?_⟩⟩
  rw [cell_of_row _ _ _ _ _ _ (heap_alloc_new w _), Nat.zero_add, ← Array.getElem?_toList, h, List.getElem?_map, List.getElem?_eq_getElem hj]; rfl
namespace Mi
set_option linter.unusedVariables false
theorem xor_div (x s : Nat) (hx : x < 18446744073709551616) (S : Int) (hs : (s : Int) = S) : bits .xor .u64 (x : Int) ((x : Int) / S) = ((x ^^^ x / s : Nat) : Int) := by
  subst hs
  exact xorShift_u64 x s hx
theorem mix_div (x s m : Nat) (hx : x < 18446744073709551616) (S M : Int) (hs : (s : Int) = S) (hm : (m : Int) = M) : IntKind.u64.wrap (bits .xor .u64 (x : Int) ((x : Int) / S) * M) = (((x ^^^ x / s) * m % 18446744073709551616 : Nat) : Int) := by
  subst hs
  subst hm
  exact mixStep_u64 x s m hx
def half1 (x : Nat) : Nat := turned 30 x * 13787848793156543929 % 18446744073709551616
def half2 (x : Nat) : Nat := turned 27 x * 10723151780598845931 % 18446744073709551616
theorem one_is (x : Nat) : one x = turned 31 (half2 (half1 x)) := rfl
theorem half1_is (x : Nat) : half1 x = (x ^^^ x / 1073741824) * 13787848793156543929 % 18446744073709551616 := by simp only [half1, turned, Nat.reducePow]
theorem half2_is (x : Nat) : half2 x = (x ^^^ x / 134217728) * 10723151780598845931 % 18446744073709551616 := by simp only [half2, turned, Nat.reducePow]
theorem half1_lt (x : Nat) : half1 x < 18446744073709551616 := mod_lt _
theorem half2_lt (x : Nat) : half2 x < 18446744073709551616 := mod_lt _
theorem turned31 (x : Nat) : turned 31 x = x ^^^ x / 2147483648 := by simp only [turned, Nat.reducePow]
theorem half1_walk (x : Nat) (hx : x < 18446744073709551616) : IntKind.u64.wrap (bits .xor .u64 (x : Int) ((x : Int) / 1073741824) * 13787848793156543929) = ((half1 x : Nat) : Int) := by
  rw [half1_is]; exact mix_div x 1073741824 13787848793156543929 hx 1073741824 13787848793156543929 (by omega) (by omega)
theorem half2_walk (x : Nat) (hx : x < 18446744073709551616) : IntKind.u64.wrap (bits .xor .u64 (x : Int) ((x : Int) / 134217728) * 10723151780598845931) = ((half2 x : Nat) : Int) := by
  rw [half2_is]; exact mix_div x 134217728 10723151780598845931 hx 134217728 10723151780598845931 (by omega) (by omega)
theorem one_walk (x : Nat) (hx : x < 18446744073709551616) :
    bits .xor .u64 (IntKind.u64.wrap (bits .xor .u64 (IntKind.u64.wrap (bits .xor .u64 (x : Int) ((x : Int) / 1073741824) * 13787848793156543929)) (IntKind.u64.wrap (bits .xor .u64 (x : Int) ((x : Int) / 1073741824) * 13787848793156543929) / 134217728) * 10723151780598845931))
      (IntKind.u64.wrap (bits .xor .u64 (IntKind.u64.wrap (bits .xor .u64 (x : Int) ((x : Int) / 1073741824) * 13787848793156543929)) (IntKind.u64.wrap (bits .xor .u64 (x : Int) ((x : Int) / 1073741824) * 13787848793156543929) / 134217728) * 10723151780598845931) / 2147483648) = ((one x : Nat) : Int) := by
  rw [one_is, half1_walk x hx, half2_walk _ (half1_lt x), turned31]
  exact xor_div _ 2147483648 (half2_lt _) 2147483648 (by omega)
/-- A number of 64 bits, divided as the document divides. -/
theorem wrap_tdiv (a S : Int) (hs : 0 < S) : IntKind.u64.wrap ((IntKind.u64.wrap a).tdiv S) = IntKind.u64.wrap a / S := by
  rw [IntKind.wrap_u64 a, Int.tdiv_eq_ediv_of_nonneg (Int.emod_nonneg _ (by decide)), IntKind.wrap_u64]
  have h1 : 0 ≤ a % 18446744073709551616 := Int.emod_nonneg _ (by decide)
  have h2 : a % 18446744073709551616 < 18446744073709551616 := Int.emod_lt_of_pos _ (by decide)
  exact Int.emod_eq_of_lt (Int.ediv_nonneg h1 (by omega)) (Int.lt_of_le_of_lt (Int.ediv_le_self _ h1) h2)
theorem high_prod (h : Nat) (n : Int) (hh : h < 18446744073709551616) (h1 : 1 ≤ n) (h2 : n ≤ 2147483648) : ∃ p : Nat, h / 4294967296 * n.toNat = p ∧ (h : Int) / 4294967296 * n = (p : Int) ∧ p < 9223372036854775808 ∧ IntKind.u64.wrap (p : Int) = (p : Int) ∧ wrap64 ((p : Int) / 4294967296) = ((p / 4294967296 : Nat) : Int) := by
  have hp := prod_le (a := h / 4294967296) (n := n.toNat) (by omega)
  have e : (h : Int) / 4294967296 * n = ((h / 4294967296 * n.toNat : Nat) : Int) := by
    rw [Int.natCast_mul, Int.toNat_of_nonneg (by omega)]; rfl
  generalize h / 4294967296 * n.toNat = p at *
  refine ⟨p, rfl, e, by omega, ?_, ?_⟩
  · rw [IntKind.wrap_u64]; omega
  · unfold wrap64; omega
theorem below_walk (h : Nat) (n : Int) (hh : h < 18446744073709551616) (h1 : 1 ≤ n) (h2 : n ≤ 2147483648) : wrap64 (IntKind.u64.wrap ((h : Int) / 4294967296 * n) / 4294967296) = below h n := by
  rw [below_is h1 h2]
  obtain ⟨p, e1, e2, e3, e4, e5⟩ := high_prod h n hh h1 h2
  rw [e1, e2, e4, e5]
theorem rot_walk (h : Nat) (hh : h < 18446744073709551616) : bits .or .u64 (IntKind.u64.wrap ((h : Int) * 128)) ((h : Int) / 144115188075855872) = ((rot h : Nat) : Int) := by
  have e1 : IntKind.u64.wrap ((h : Int) * 128) = ((h * 128 % 18446744073709551616 : Nat) : Int) := by rw [IntKind.wrap_u64]; omega
  have e2 : (h : Int) / 144115188075855872 = ((h / 144115188075855872 : Nat) : Int) := by omega
  rw [e1, e2, u64_or_nat _ _ (mod_lt _) (by omega), rot_or hh]
/-- What is added to a number ahead of mixing it, as a letter. -/
theorem add_G (x : Nat) : ∃ g : Nat, g = (x + 11400714819323198485) % 18446744073709551616 ∧ g < 18446744073709551616 ∧ IntKind.u64.wrap ((x : Int) + 11400714819323198485) = (g : Int) := ⟨_, rfl, mod_lt _, by rw [IntKind.wrap_u64]; omega⟩
theorem mix_at (key : Nat) (ls : List Nat) (k : Nat) (h : k < ls.length) : mix key (ls.take (k + 1)) = one (rot (mix key (ls.take k)) ^^^ one ((ls[k] + 11400714819323198485) % 18446744073709551616)) := by
  rw [List.take_succ_eq_append_getElem h, mix_snoc, step]
theorem mix_start (key : Nat) (ls : List Nat) : mix key (ls.take 0) = one ((key + 11400714819323198485) % 18446744073709551616) := by rw [List.take_zero, mix, List.foldl_nil]
theorem mix_all (key : Nat) (ls : List Nat) (k : Nat) (h : ls.length ≤ k) : mix key (ls.take k) = mix key ls := by rw [List.take_of_length_le h]
theorem rrot_walk (h : Nat) (hh : h < 18446744073709551616) : IntKind.u64.wrap (IntKind.u64.wrap ((h : Int) * 128) + IntKind.u64.wrap ((h : Int) / 144115188075855872)) = ((rot h : Nat) : Int) := by
  unfold rot
  rw [IntKind.wrap_u64, IntKind.wrap_u64, IntKind.wrap_u64]; omega
end Mi
end Go.Proofs.Ytgnjbbohphoojaa
/- Contracts of package mix, and of the document's own answers for layer 10: subnets that are mixed. -/
namespace Go.Proofs.Ytgnjbbohphoojaa.Mi
set_option maxRecDepth 100000
open Go.ChangeShapes Go.WideShapes Go.ChangeAt Go.RowKit
open Ad Ci
set_option linter.unusedVariables false
def kindN (v6 : Bool) : Nat := if v6 then 6 else 4
def bitsN (n : Int) : Nat := (n % 18446744073709551616).toNat
def mixN (key : Nat) (n : Net) : Nat := mix key [kindN n.a.v6, n.a.hi, n.a.lo, bitsN n.n]
theorem mixN_lt (key : Nat) (n : Net) : mixN key n < 18446744073709551616 := mix_lt _ _
theorem bits_walk (n : Int) : IntKind.u64.wrap n = ((bitsN n : Nat) : Int) := by rw [IntKind.wrap_u64]; unfold bitsN; omega
theorem ST.low {n : Net} {w w1 : World} (h : ST n w w1) : Below w.heap.size w w1 := ((Below.refl _ _).alloc (Nat.le_refl _) _).trans (h.2.2.2.2.mono (by simp))
theorem ST.on {n : Net} {w w1 w2 : World} (h : ST n w w1) (k : Below w1.heap.size w1 w2) : ST n w w2 := ST.of (low_trans h.2.2.2.2 k)
theorem nums4 (W : World) (a b c d : Nat) : Nums (W.alloc (.cells #[.int .u64 a, .int .u64 b, .int .u64 c, .int .u64 d] 29)) (.slice (some ⟨W.heap.size, 0, none⟩) 4 4) [a, b, c, d] := Nums.lit W [a, b, c, d] _ _ rfl
end Go.Proofs.Ytgnjbbohphoojaa.Mi
/- Lists of numbers that came in, and such as are put together by append. -/
namespace Go.Proofs.Ytgnjbbohphoojaa
set_option maxRecDepth 100000
open Go.ChangeShapes Go.WideShapes Go.ChangeAt Go.RowKit
section
variable {H : Type} {enc : TypeId × Value → H} {P : Program}
/-- A list of numbers that came in. -/
theorem open_nums {W : World} {t e : TypeId} {v : Value} {d : DataW H} {ps : List MemPlace} {r : Reach} {b0 : Nat} (ht : P.underlying t = some (.slice e)) (he : P.underlying e = some (.int .u64)) (hc : P.cellsOf e = 1)
    (hval : Value.okWide P W r b0 t v) (h : DataW.Trod enc P W 0 (fun _ => true) true t v d ps) : ∃ ls : List Nat, Nums W v ls ∧ ls.length ≤ 9223372036854775807 ∧ ∀ l ∈ ls, l < 18446744073709551616 := by
  obtain ⟨a0, len, cap, rfl⟩ := okWide_slice ht hval
  obtain ⟨fuel, hf⟩ := h
  rcases open_ints ht he hc hf with ⟨hcs, _⟩ | ⟨a, len', cap', zs, hcs, _, hl, hm, hz, _, hcell, hws⟩
  · simp [Value.cells] at hcs
    obtain ⟨rfl, rfl, rfl⟩ := hcs
    exact ⟨[], Nums.nil _, by simp, by simp⟩
  · simp [Value.cells] at hcs
    obtain ⟨rfl, rfl, rfl⟩ := hcs
    simp only [if_true] at hz
    unfold maxLen at hm
    have hlen : ((zs.take len).map Int.toNat).length = len := by rw [List.length_map, List.length_take]; omega
    have hb : ∀ z ∈ zs, 0 ≤ z ∧ z < 18446744073709551616 := fun z hz => by
      have := hws z hz
      obtain ⟨n, rfl, hn⟩ := nat_of_u64 this
      omega
    refine ⟨(zs.take len).map Int.toNat, ⟨some a, cap, by rw [hlen], by rw [hlen]; exact hl, (fun h => by simp at h), fun hp => ?_⟩, by rw [hlen]; omega, fun l hl2 => ?_⟩
    · rw [hlen] at hp
      obtain ⟨b, off, spot⟩ := a
      have hspot : spot = none := by simpa [Addr.add] using World.cell?_spot (hcell 0 (by omega))
      subst hspot
      refine ⟨b, off, rfl, World.block_lt_of_cell? _ _ (hcell 0 (by omega)), fun j hj => ?_⟩
      rw [← add_plain, hcell j (by rw [hlen] at hj; omega)]
      have hj2 : j < zs.length := by rw [hlen] at hj; omega
      rw [List.getElem_map, List.getElem_take, List.getD, List.getElem?_eq_getElem hj2, Option.getD_some, Int.toNat_of_nonneg (hb _ (List.getElem_mem _)).1]
    · obtain ⟨z, hs, rfl⟩ := List.mem_map.1 hl2
      have := hb z (List.mem_of_mem_take hs)
      omega
end
/-- An append whose run is known, for the walk. -/
theorem wpList_append_run {P : Program} {w : World} {ops : Array Oper} {rest : List Oper} {o : Oper} {a : Act} {Q : Exit → Act → World → Prop} (hgd : o.guard = none) (s x : Operand) (t ty : TypeId)
    (ho : o.op = .call { callee := .builtin .append, args := #[s, x], argTypes := #[t, t] }) (hty : o.type = ty) (vs vx v : Value) (w' : World) (hs : a.eval s = vs) (hx : a.eval x = vx)
    (hrun : (Builtin.append_ #[t, t] ty #[vs, vx]).run P w = .ok v w') (h : wpList P ops Q rest (a.put o.dst v) w') : wpList P ops Q (o :: rest) a w := by
  subst hty
  refine wpList_plain hgd fun K hK => ?_
  unfold Oper.wp
  simp [execOp, ho, resolve, invoke, builtin, hs, hx, hrun, Result.andThen]
  exact hK _ _ h
namespace Mi
def ints (l : List Nat) : List Value := l.map fun x => Value.int .u64 (x : Nat)
/-- What a call's own slice holds reads as numbers. -/
theorem nums_own {W : World} {B : Nat} {e : TypeId} {v : Value} {n : Nat} {l : List Nat} (h : W.ownsRow B e 1 v n (ints l)) : Nums W v l ∧ n = l.length := by
  have hn : n = l.length := by have := h.1; simp only [ints, List.length_map, Nat.mul_one] at this; exact this.symm
  refine ⟨?_, hn⟩
  rcases h.2 with ⟨rfl, h0⟩ | ⟨g, cap, cur, rfl, hb, hg, h1, h2, h3, h4⟩
  · obtain rfl : l = [] := List.eq_nil_of_length_eq_zero (by omega)
    exact Nums.nil W
  · refine ⟨some ⟨g, 0, none⟩, cap, by rw [hn], by rw [← hn]; exact h1, (fun h => by simp at h), fun _ => ⟨g, 0, rfl, (Array.getElem?_eq_some_iff.1 hg).1, fun j hj => ?_⟩⟩
    have := h.cells (g := g) rfl j (.int .u64 (l[j] : Nat)) (by rw [ints, List.getElem?_map, List.getElem?_eq_getElem hj]; rfl)
    rwa [add_plain] at this
end Mi
end Go.Proofs.Ytgnjbbohphoojaa
