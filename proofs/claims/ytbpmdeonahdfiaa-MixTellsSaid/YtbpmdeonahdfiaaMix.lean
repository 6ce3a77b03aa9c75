/- Contracts of package mix, and of the document's own answers for layer 10. Numbers in memory. -/
import Derived.Test.YtbpmdeonahdfiaaKit
import Derived.Test.YtbpmdeonahdfiaaMixMath
import Derived.Laws.BitsAll
namespace Go.Proofs.Ytbpmdeonahdfiaa
set_option maxRecDepth 100000
open Go.ChangeShapes Go.WideShapes Go.ChangeAt Go.RowKit
/-- The value v is a slice that reads as these numbers. -/
def Nums (w : World) (v : Value) (ls : List Nat) : Prop :=
  ∃ A c, v = .slice A ls.length c ∧ ls.length ≤ c ∧ (A = none → c = 0) ∧ (0 < ls.length → ∃ b o, A = some ⟨b, o, none⟩ ∧ b < w.heap.size ∧ ∀ j (h : j < ls.length), w.cell? ⟨b, o + j, none⟩ = some (.int .u64 (ls[j] : Nat)))
theorem Nums.below {w w1 : World} {v : Value} {ls : List Nat} (h : Nums w v ls) (hb : Below w.heap.size w w1) : Nums w1 v ls := by
  obtain ⟨A, c, h1, h2, h0, h3⟩ := h
  refine ⟨A, c, h1, h2, h0, fun hp => ?_⟩
  obtain ⟨b, o, e, hlt, hc⟩ := h3 hp
  exact ⟨b, o, e, Nat.lt_of_lt_of_le hlt hb.size, fun j hj => (hb.cell (p := ⟨b, o + j, none⟩) hlt).trans (hc j hj)⟩
theorem Nums.nil (w : World) : Nums w (.slice none 0 0) [] := ⟨none, 0, rfl, Nat.le_refl _, fun _ => rfl, fun h => absurd h (by simp)⟩
/-- A list that was just written out, as for a call of many arguments. -/
theorem Nums.lit (w : World) (ls : List Nat) (cs : Array Value) (e : TypeId) (h : cs.toList = ls.map fun l => Value.int .u64 (l : Nat)) : Nums (w.alloc (.cells cs e)) (.slice (some ⟨w.heap.size, 0, none⟩) ls.length ls.length) ls := by
  refine ⟨some ⟨w.heap.size, 0, none⟩, ls.length, rfl, Nat.le_refl _, fun h => by simp at h, fun _ => ⟨w.heap.size, 0, rfl, by simp, fun j hj => ?_⟩⟩
  rw [cell_of_row _ _ _ _ _ _ (heap_alloc_new w _), Nat.zero_add, ← Array.getElem?_toList, h, List.getElem?_map, List.getElem?_eq_getElem hj]; rfl
namespace Mi
set_option linter.unusedVariables false
theorem xor_div (x s : Nat) (hx : x < 18446744073709551616) (S : Int) (hs : (s : Int) = S) : bits .xor .u64 (x : Int) ((x : Int) / S) = ((x ^^^ x / s : Nat) : Int) := by
  subst hs
  exact xorShift_u64 x s hx
theorem mix_div (x s m : Nat) (hx : x < 18446744073709551616) (S M : Int) (hs : (s : Int) = S) (hm : (m : Int) = M) : IntKind.u64.wrap (bits .xor .u64 (x : Int) ((x : Int) / S) * M) = (((x ^^^ x / s) * m % 18446744073709551616 : Nat) : Int) := by
  subst hs
  subst hm
  exact mixStep_u64 x s m hx
def half1 (x : Nat) : Nat := turned 30 x * 13787848793156543929 % 18446744073709551616
def half2 (x : Nat) : Nat := turned 27 x * 10723151780598845931 % 18446744073709551616
theorem one_is (x : Nat) : one x = turned 31 (half2 (half1 x)) := rfl
theorem half1_is (x : Nat) : half1 x = (x ^^^ x / 1073741824) * 13787848793156543929 % 18446744073709551616 := by simp only [half1, turned, Nat.reducePow]
theorem half2_is (x : Nat) : half2 x = (x ^^^ x / 134217728) * 10723151780598845931 % 18446744073709551616 := by simp only [half2, turned, Nat.reducePow]
theorem half1_lt (x : Nat) : half1 x < 18446744073709551616 := mod_lt _
theorem half2_lt (x : Nat) : half2 x < 18446744073709551616 := mod_lt _
theorem turned31 (x : Nat) : turned 31 x = x ^^^ x / 2147483648 := by simp only [turned, Nat.reducePow]
theorem half1_walk (x : Nat) (hx : x < 18446744073709551616) : IntKind.u64.wrap (bits .xor .u64 (x : Int) ((x : Int) / 1073741824) * 13787848793156543929) = ((half1 x : Nat) : Int) := by
  rw [half1_is]; exact mix_div x 1073741824 13787848793156543929 hx 1073741824 13787848793156543929 (by omega) (by omega)
theorem half2_walk (x : Nat) (hx : x < 18446744073709551616) : IntKind.u64.wrap (bits .xor .u64 (x : Int) ((x : Int) / 134217728) * 10723151780598845931) = ((half2 x : Nat) : Int) := by
  rw [half2_is]; exact mix_div x 134217728 10723151780598845931 hx 134217728 10723151780598845931 (by omega) (by omega)
theorem one_walk (x : Nat) (hx : x < 18446744073709551616) :
    bits .xor .u64 (IntKind.u64.wrap (bits .xor .u64 (IntKind.u64.wrap (bits .xor .u64 (x : Int) ((x : Int) / 1073741824) * 13787848793156543929)) (IntKind.u64.wrap (bits .xor .u64 (x : Int) ((x : Int) / 1073741824) * 13787848793156543929) / 134217728) * 10723151780598845931))
      (IntKind.u64.wrap (bits .xor .u64 (IntKind.u64.wrap (bits .xor .u64 (x : Int) ((x : Int) / 1073741824) * 13787848793156543929)) (IntKind.u64.wrap (bits .xor .u64 (x : Int) ((x : Int) / 1073741824) * 13787848793156543929) / 134217728) * 10723151780598845931) / 2147483648) = ((one x : Nat) : Int) := by
  rw [one_is, half1_walk x hx, half2_walk _ (half1_lt x), turned31]
  exact xor_div _ 2147483648 (half2_lt _) 2147483648 (by omega)
theorem one_any (x : Nat) (w : World) (hx : x < 18446744073709551616) : Calls Try.prog 7 #[.int .u64 x] w fun e w' => e = .returned (.int .u64 (one x)) ∧ w' = w := by
  go_enter Try.func7, Try.ntmps7
  go_wp2_with fail
  go_ret
  exact ⟨ret_i (one_walk x hx), rfl⟩
/-- A number of 64 bits, divided as the document divides. -/
theorem wrap_tdiv (a S : Int) (hs : 0 < S) : IntKind.u64.wrap ((IntKind.u64.wrap a).tdiv S) = IntKind.u64.wrap a / S := by
  rw [IntKind.wrap_u64 a, Int.tdiv_eq_ediv_of_nonneg (Int.emod_nonneg _ (by decide)), IntKind.wrap_u64]
  have h1 : 0 ≤ a % 18446744073709551616 := Int.emod_nonneg _ (by decide)
  have h2 : a % 18446744073709551616 < 18446744073709551616 := Int.emod_lt_of_pos _ (by decide)
  exact Int.emod_eq_of_lt (Int.ediv_nonneg h1 (by omega)) (Int.lt_of_le_of_lt (Int.ediv_le_self _ h1) h2)
theorem rone_any (x : Nat) (w : World) (hx : x < 18446744073709551616) : Calls Try.prog 8 #[.int .u64 x] w fun e w' => e = .returned (.int .u64 (one x)) ∧ w' = w := by
  have e1 := wrap_tdiv (bits .xor .u64 (x : Int) ((x : Int) / 1073741824) * 13787848793156543929) 134217728 (by decide)
  have e2 := wrap_tdiv (bits .xor .u64 (IntKind.u64.wrap (bits .xor .u64 (x : Int) ((x : Int) / 1073741824) * 13787848793156543929)) (IntKind.u64.wrap (bits .xor .u64 (x : Int) ((x : Int) / 1073741824) * 13787848793156543929) / 134217728) * 10723151780598845931) 2147483648 (by decide)
  have H1 := Lib.hid e1
  have H2 := Lib.hid e2
  clear e1 e2
  go_enter Try.func8, Try.ntmps8
  go_wp2_with fail
  go_ret
  refine ⟨ret_i ?_, rfl⟩
  rw [← one_walk x hx, H1.out, H2.out]
theorem high_prod (h : Nat) (n : Int) (hh : h < 18446744073709551616) (h1 : 1 ≤ n) (h2 : n ≤ 2147483648) : ∃ p : Nat, h / 4294967296 * n.toNat = p ∧ (h : Int) / 4294967296 * n = (p : Int) ∧ p < 9223372036854775808 ∧ IntKind.u64.wrap (p : Int) = (p : Int) ∧ wrap64 ((p : Int) / 4294967296) = ((p / 4294967296 : Nat) : Int) := by
  have hp := prod_le (a := h / 4294967296) (n := n.toNat) (by omega)
  have e : (h : Int) / 4294967296 * n = ((h / 4294967296 * n.toNat : Nat) : Int) := by
    rw [Int.natCast_mul, Int.toNat_of_nonneg (by omega)]; rfl
  generalize h / 4294967296 * n.toNat = p at *
  refine ⟨p, rfl, e, by omega, ?_, ?_⟩
  · rw [IntKind.wrap_u64]; omega
  · unfold wrap64; omega
theorem below_walk (h : Nat) (n : Int) (hh : h < 18446744073709551616) (h1 : 1 ≤ n) (h2 : n ≤ 2147483648) : wrap64 (IntKind.u64.wrap ((h : Int) / 4294967296 * n) / 4294967296) = below h n := by
  rw [below_is h1 h2]
  obtain ⟨p, e1, e2, e3, e4, e5⟩ := high_prod h n hh h1 h2
  rw [e1, e2, e4, e5]
theorem below_any (h : Nat) (n : Int) (w : World) (hh : h < 18446744073709551616) : Calls Try.prog 13 #[.int .u64 h, .int .i64 n] w fun e w' => e = .returned (.int .i64 (below h n)) ∧ w' = w := by
  by_cases h1 : 1 ≤ n
  · by_cases h2 : n ≤ 2147483648
    · go_enter Try.func13, Try.ntmps13
      go_wp2_with fail
      go_ret
      exact ⟨ret_i (below_walk h n hh h1 h2), rfl⟩
    · go_enter Try.func13, Try.ntmps13
      go_wp2_with fail
      go_ret
      exact ⟨ret_i (below_out (by omega)).symm, rfl⟩
  · go_enter Try.func13, Try.ntmps13
    go_wp2_with fail
    go_ret
    exact ⟨ret_i (below_out (by omega)).symm, rfl⟩
theorem rbelow_any (h : Nat) (n : Int) (w : World) (hh : h < 18446744073709551616) : Calls Try.prog 14 #[.int .u64 h, .int .i64 n] w fun e w' => e = .returned (.int .i64 (below h n)) ∧ w' = w := by
  by_cases h1 : 1 ≤ n
  · by_cases h2 : n ≤ 2147483648
    · have H1 := Lib.hid (wrap_tdiv ((h : Int) / 4294967296 * n) 4294967296 (by decide))
      go_enter Try.func14, Try.ntmps14
      go_wp2_with fail
      go_ret
      refine ⟨ret_i ?_, rfl⟩
      rw [← below_walk h n hh h1 h2, H1.out]
    · go_enter Try.func14, Try.ntmps14
      go_wp2_with fail
      go_ret
      exact ⟨ret_i (below_out (by omega)).symm, rfl⟩
  · go_enter Try.func14, Try.ntmps14
    go_wp2_with fail
    go_ret
    exact ⟨ret_i (below_out (by omega)).symm, rfl⟩
theorem rot_walk (h : Nat) (hh : h < 18446744073709551616) : bits .or .u64 (IntKind.u64.wrap ((h : Int) * 128)) ((h : Int) / 144115188075855872) = ((rot h : Nat) : Int) := by
  have e1 : IntKind.u64.wrap ((h : Int) * 128) = ((h * 128 % 18446744073709551616 : Nat) : Int) := by rw [IntKind.wrap_u64]; omega
  have e2 : (h : Int) / 144115188075855872 = ((h / 144115188075855872 : Nat) : Int) := by omega
  rw [e1, e2, u64_or_nat _ _ (mod_lt _) (by omega), rot_or hh]
theorem rotate_any (h : Nat) (w : World) (hh : h < 18446744073709551616) : Calls Try.prog 15 #[.int .u64 h, .int .i64 7] w fun e w' => e = .returned (.int .u64 (rot h)) ∧ w' = w := by
  have e7 : bits .and .u64 7 63 = 7 := by decide
  go_enter Try.func15, Try.ntmps15
  go_wp2_with fail
  go_ret
  refine ⟨ret_i (rot_walk h hh), rfl⟩
/-- What is added to a number ahead of mixing it, as a letter. -/
theorem add_G (x : Nat) : ∃ g : Nat, g = (x + 11400714819323198485) % 18446744073709551616 ∧ g < 18446744073709551616 ∧ IntKind.u64.wrap ((x : Int) + 11400714819323198485) = (g : Int) := ⟨_, rfl, mod_lt _, by rw [IntKind.wrap_u64]; omega⟩
theorem mix_at (key : Nat) (ls : List Nat) (k : Nat) (h : k < ls.length) : mix key (ls.take (k + 1)) = one (rot (mix key (ls.take k)) ^^^ one ((ls[k] + 11400714819323198485) % 18446744073709551616)) := by
  rw [List.take_succ_eq_append_getElem h, mix_snoc, step]
theorem mix_start (key : Nat) (ls : List Nat) : mix key (ls.take 0) = one ((key + 11400714819323198485) % 18446744073709551616) := by rw [List.take_zero, mix, List.foldl_nil]
theorem mix_all (key : Nat) (ls : List Nat) (k : Nat) (h : ls.length ≤ k) : mix key (ls.take k) = mix key ls := by rw [List.take_of_length_le h]
set_option maxHeartbeats 2000000 in
theorem of_any (key : Nat) (v : Value) (ls : List Nat) (w : World) (hkey : key < 18446744073709551616) (h : Nums w v ls) (hN : ls.length ≤ 140737488355328) :
    Calls Try.prog 9 #[.int .u64 key, v] w fun e w' => e = .returned (.int .u64 (mix key ls)) ∧ w' = w := by
  obtain ⟨A, cap, rfl, hcap, _, hcell⟩ := h
  have HC := Lib.hid hcell
  obtain ⟨g, hg, hgl, e0⟩ := add_G key
  have H0 := Lib.hid (one_any g w hgl)
  have H1 : Hid (mix key (ls.take 0) = one g) := by rw [hg]; exact Lib.hid (mix_start key ls)
  clear hcell hg
  go_enter Try.func9, Try.ntmps9
  go_wp2_with fail
  (with_reducible refine H0.out.mono ?_)
  rintro e w1 ⟨rfl, rfl⟩
  go_wp2_with fail
  go_loopw [5, 13] (fun h i wr => ∃ k : Nat, k ≤ ls.length ∧ i = .int .i64 k ∧ h = .int .u64 (mix key (ls.take k) : Nat) ∧ wr = w1) (fun _ i _ => ls.length - (intOf i).toNat)
  case atStart => exact ⟨0, Nat.zero_le _, rfl, by rw [H1.out], rfl⟩
  case round =>
    obtain ⟨k, hk, rfl, rfl, rfl⟩ := hrel
    by_cases hlt : k < ls.length
    · obtain ⟨b, o, rfl, hb, hc⟩ := HC.out (by omega)
      have h1 := hc k hlt
      obtain ⟨a, ha, hal, e1⟩ := add_G ls[k]
      have hml := mix_lt key (ls.take k)
      have HE := Lib.hid (mix_at key ls k hlt)
      rw [← ha] at HE
      have e2 := bits_xor_u64_nat (rot (mix key (ls.take k))) (one a) (rot_lt hml) (one_lt a)
      have b2 := xor_lt (rot_lt hml) (one_lt a)
      have H2 := Lib.hid (rotate_any (mix key (ls.take k)) wr hml)
      have H3 := Lib.hid (one_any a wr hal)
      clear hc ha
      obtain ⟨y, hy⟩ : ∃ y, y = rot (mix key (ls.take k)) ^^^ one a := ⟨_, rfl⟩
      rw [← hy] at e2 b2 HE
      have H4 := Lib.hid (one_any y wr b2)
      clear hy hml
      go_wp2_with fail
      (with_reducible refine H2.out.mono ?_)
      rintro e w2 ⟨rfl, rfl⟩
      go_wp2_with fail
      (with_reducible refine H3.out.mono ?_)
      rintro e w3 ⟨rfl, rfl⟩
      go_wp2_with fail
      (with_reducible refine H4.out.mono ?_)
      rintro e w4 ⟨rfl, rfl⟩
      go_wp2_with fail
      go_roundw
      case rel => exact ⟨k + 1, by omega, by go_num, by rw [HE.out], by trivial⟩
      case measure => simp [intOf]; omega
    · have HE := Lib.hid (mix_all key ls k (by omega))
      go_wp2
      go_ret
      exact ⟨ret_i (by rw [HE.out]), rfl⟩
theorem rrot_walk (h : Nat) (hh : h < 18446744073709551616) : IntKind.u64.wrap (IntKind.u64.wrap ((h : Int) * 128) + IntKind.u64.wrap ((h : Int) / 144115188075855872)) = ((rot h : Nat) : Int) := by
  unfold rot
  rw [IntKind.wrap_u64, IntKind.wrap_u64, IntKind.wrap_u64]; omega
set_option maxHeartbeats 2000000 in
theorem rof_any (key : Nat) (v : Value) (ls : List Nat) (w : World) (hkey : key < 18446744073709551616) (h : Nums w v ls) (hN : ls.length ≤ 140737488355328) :
    Calls Try.prog 10 #[.int .u64 key, v] w fun e w' => e = .returned (.int .u64 (mix key ls)) ∧ w' = w := by
  obtain ⟨A, cap, rfl, hcap, _, hcell⟩ := h
  have HC := Lib.hid hcell
  obtain ⟨g, hg, hgl, e0⟩ := add_G key
  have H0 := Lib.hid (rone_any g w hgl)
  have H1 : Hid (mix key (ls.take 0) = one g) := by rw [hg]; exact Lib.hid (mix_start key ls)
  clear hcell hg
  go_enter Try.func10, Try.ntmps10
  go_wp2_with fail
  (with_reducible refine H0.out.mono ?_)
  rintro e w1 ⟨rfl, rfl⟩
  go_wp2_with fail
  go_loopw [5, 6] (fun h i wr => ∃ k : Nat, k ≤ ls.length ∧ i = .int .i64 k ∧ h = .int .u64 (mix key (ls.take k) : Nat) ∧ wr = w1) (fun _ i _ => ls.length - (intOf i).toNat)
  case atStart => exact ⟨0, Nat.zero_le _, rfl, by rw [H1.out], rfl⟩
  case round =>
    obtain ⟨k, hk, rfl, rfl, rfl⟩ := hrel
    by_cases hlt : k < ls.length
    · obtain ⟨b, o, rfl, hb, hc⟩ := HC.out (by omega)
      have h1 := hc k hlt
      obtain ⟨a, ha, hal, e1⟩ := add_G ls[k]
      have hml := mix_lt key (ls.take k)
      have HE := Lib.hid (mix_at key ls k hlt)
      rw [← ha] at HE
      have e2 := bits_xor_u64_nat (rot (mix key (ls.take k))) (one a) (rot_lt hml) (one_lt a)
      have b2 := xor_lt (rot_lt hml) (one_lt a)
      have e3 := rrot_walk (mix key (ls.take k)) hml
      have H3 := Lib.hid (rone_any a wr hal)
      clear hc ha
      obtain ⟨y, hy⟩ : ∃ y, y = rot (mix key (ls.take k)) ^^^ one a := ⟨_, rfl⟩
      rw [← hy] at e2 b2 HE
      have H4 := Lib.hid (rone_any y wr b2)
      clear hy hml
      go_wp2_with fail
      (with_reducible refine H3.out.mono ?_)
      rintro e w3 ⟨rfl, rfl⟩
      go_wp2_with fail
      (with_reducible refine H4.out.mono ?_)
      rintro e w4 ⟨rfl, rfl⟩
      go_wp2_with fail
      go_roundw
      case rel => exact ⟨k + 1, by omega, by go_num, by rw [HE.out], by trivial⟩
      case measure => simp [intOf]; omega
    · have HE := Lib.hid (mix_all key ls k (by omega))
      go_wp2
      go_ret
      exact ⟨ret_i (by rw [HE.out]), rfl⟩
end Mi
end Go.Proofs.Ytbpmdeonahdfiaa
