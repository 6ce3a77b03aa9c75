/- Subnets in lists, in plain words: whether one holds an address, bit by bit; their order; what is put into a list, taken out, told of it. -/
import Derived.Test.YtgnpnmdndlodlaaMath
import Derived.Test.YtgnpnmdndlodlaaEndpAll
import Derived.Test.YtgnpnmdndlodlaaRef07All
import Derived.Test.YtgnpnmdndlodlaaCls
import Derived.Test.YtgnpnmdndlodlaaCidrAll
import Derived.Test.YtgnpnmdndlodlaaRef06All
import Derived.Deep.RegionHeld3
import Derived.Test.YtgnpnmdndlodlaaRecs
namespace Go.Proofs.Ytgnpnmdndlodlaa.Ci
set_option maxRecDepth 100000
open Dec Words V4 V6 Ad
/-- The first k bits are an address's own, the others none. -/
theorem first_bit {a : Adr} {k j : Nat} (hk : k ≤ bitsA a) (hj : j < bitsA a) : bitN (firstA a k) j = if j < k then bitN a j else 0 := by
  obtain ⟨v, hi, lo⟩ := a
  cases v
  · have hb : bitsA ⟨false, hi, lo⟩ = 32 := rfl
    rw [hb] at hk hj
    show keep lo (32 - k) / 2 ^ (31 - j) % 2 = if j < k then lo / 2 ^ (31 - j) % 2 else 0
    split
    · rw [keep_div (by omega)]
    · exact keep_odd (by omega)
  · have hb : bitsA ⟨true, hi, lo⟩ = 128 := rfl
    rw [hb] at hk hj
    show (if j < 64 then keep hi (128 - k - 64) / 2 ^ (63 - j) % 2 else keep lo (128 - k) / 2 ^ (127 - j) % 2) = if j < k then (if j < 64 then hi / 2 ^ (63 - j) % 2 else lo / 2 ^ (127 - j) % 2) else 0
    split
    · split
      · rw [keep_div (by omega)]
      · exact keep_odd (by omega)
    · split
      · rw [keep_div (by omega)]
      · exact keep_odd (by omega)
theorem right_made {n : Net} (h : rightN n = true) : rightA n.a = true ∧ 0 ≤ n.n ∧ n.n ≤ (bitsA n.a : Int) := by
  obtain ⟨h1, _⟩ := (rightN_iff n).1 h
  exact (makeB_iff _ _).1 h1
theorem bitsA_v6 {a b : Adr} (h : a.v6 = b.v6) : bitsA a = bitsA b := by unfold bitsA; rw [h]
theorem has_parts {n : Net} {a : Adr} (h : hasN n a = true) : rightN n = true ∧ rightA a = true ∧ n.a.v6 = a.v6 := by
  unfold hasN at h
  rw [Bool.and_eq_true, sameN_iff] at h
  obtain ⟨h1, h2⟩ := h
  obtain ⟨g1, g2, g3⟩ := (makeB_iff _ _).1 h1
  have hm := make_right h1
  rw [h2] at hm
  refine ⟨hm, g1, ?_⟩
  rw [← h2]
  unfold makeN
  rw [if_pos h1]; rfl
theorem has_first {n : Net} {a : Adr} (rn : rightN n = true) (ra : rightA a = true) (hv : n.a.v6 = a.v6) : hasN n a = true ↔ firstA a n.n.toNat = n.a := by
  obtain ⟨g1, g2, g3⟩ := right_made rn
  rw [bitsA_v6 hv] at g3
  have hm : makeB a n.n = true := (makeB_iff _ _).2 ⟨ra, g2, g3⟩
  unfold hasN makeN
  rw [hm, Bool.true_and, if_pos rfl, sameN_iff]
  exact ⟨fun h => congrArg Net.a h, fun h => by rw [h]⟩
/-- Bit by bit. -/
theorem has_bits {n : Net} {a : Adr} (hn : n.ok) (ha : a.ok) (rn : rightN n = true) (ra : rightA a = true) (hv : n.a.v6 = a.v6) : hasN n a = true ↔ ∀ j, j < n.n.toNat → bitN n.a j = bitN a j := by
  rw [has_first rn ra hv]
  obtain ⟨g1, g2, g3⟩ := right_made rn
  have hb := bitsA_v6 hv
  have hk : n.n.toNat ≤ bitsA a := by omega
  constructor
  · intro h j hj
    rw [← h, first_bit hk (by omega), if_pos hj]
  · intro h
    refine bits_same (firstA_ok ha _) hn.1 (first_right ra _ hk) g1 (by rw [bitsA_v6 (a := firstA a n.n.toNat) (b := a) rfl, hb]) fun i hi => ?_
    rw [bitsA_v6 (a := firstA a n.n.toNat) (b := a) rfl] at hi
    rw [first_bit hk hi]
    split
    · rename_i hlt; exact (h i hlt).symm
    · have hm : makeB n.a n.n = true := (makeB_iff _ _).2 ⟨g1, g2, g3⟩
      exact ((right_bits hn hm).1 rn i (by omega) (by omega)).symm
/-- The order of subnets: by address, then by bits. -/
def cmpN (m n : Net) : Int := if cmpA m.a n.a = 0 then En.cmpI m.n n.n else cmpA m.a n.a
theorem cmpN_E (m n : Net) : cmpN m n = En.cmpE ⟨m.a, m.n⟩ ⟨n.a, n.n⟩ := rfl
theorem cmpN_zero (m n : Net) : cmpN m n = 0 ↔ m = n := by
  rw [cmpN_E, En.cmpE_zero]
  cases m; cases n; simp
theorem cmpN_flip (m n : Net) : cmpN m n = -cmpN n m := by rw [cmpN_E, cmpN_E]; exact En.cmpE_flip _ _
theorem cmpN_le {a b c : Net} (h1 : cmpN a b ≤ 0) (h2 : cmpN b c ≤ 0) : cmpN a c ≤ 0 := by rw [cmpN_E] at *; exact En.cmpE_le h1 h2
theorem cmpN_less {a b c : Net} (h1 : cmpN a b < 0) (h2 : cmpN b c < 0) : cmpN a c < 0 := by
  have h := cmpN_le (a := a) (b := b) (c := c) (by omega) (by omega)
  by_cases e : cmpN a c = 0
  · obtain rfl := (cmpN_zero a c).1 e
    have := cmpN_flip a b
    omega
  · omega
end Go.Proofs.Ytgnpnmdndlodlaa.Ci
namespace Go.Proofs.Ytgnpnmdndlodlaa.Tr
set_option maxRecDepth 100000
open Ad Ci
/-- A subnet, and its number. -/
structure Hit where
  n : Net
  v : Int
def Hit.ok (h : Hit) : Prop := h.n.ok ∧ -9223372036854775808 ≤ h.v ∧ h.v ≤ 9223372036854775807
def cut (l : List Hit) (n : Net) : List Hit := l.filter fun h => !sameN h.n n
def putIn (n : Net) (v : Int) : List Hit → List Hit
  | [] => [⟨n, v⟩]
  | x :: xs => if cmpN n x.n < 0 then ⟨n, v⟩ :: x :: xs else x :: putIn n v xs
def withH (l : List Hit) (n : Net) (v : Int) : List Hit := if rightN n then putIn n v (cut l n) else l
def found (l : List Hit) (n : Net) : Option Hit := l.find? fun h => sameN h.n n
def getV (l : List Hit) (n : Net) : Int := match found l n with | some h => h.v | none => 0
def getB (l : List Hit) (n : Net) : Bool := (found l n).isSome
def level (l : List Hit) (a : Adr) (b : Int) : List Hit := l.filter fun h => h.n.n == b && hasN h.n a
def cover (l : List Hit) (a : Adr) : List Hit := (List.range (bitsA a + 1)).flatMap fun b : Nat => level l a (b : Int)
/-! The loops, step by step. -/
theorem cut_snoc (l : List Hit) (n : Net) (k : Nat) (h : k < l.length) : cut (l.take (k + 1)) n = if sameN l[k].n n then cut (l.take k) n else cut (l.take k) n ++ [l[k]] := by
  unfold cut
  rw [List.take_succ_eq_append_getElem h, List.filter_append]
  cases hs : sameN l[k].n n
  · rw [if_neg (by simp)]; simp [hs]
  · rw [if_pos rfl]; simp [hs]
theorem level_snoc (l : List Hit) (a : Adr) (b : Int) (k : Nat) (h : k < l.length) : level (l.take (k + 1)) a b = if l[k].n.n == b && hasN l[k].n a then level (l.take k) a b ++ [l[k]] else level (l.take k) a b := by
  unfold level
  rw [List.take_succ_eq_append_getElem h, List.filter_append]
  cases hs : (l[k].n.n == b && hasN l[k].n a)
  · rw [if_neg (by simp)]; simp [hs]
  · rw [if_pos rfl]; simp [hs]
def ahead (n : Net) (l : List Hit) : Bool := l.any fun x => decide (cmpN n x.n < 0)
theorem ahead_snoc (n : Net) (l : List Hit) (k : Nat) (h : k < l.length) : ahead n (l.take (k + 1)) = (ahead n (l.take k) || decide (cmpN n l[k].n < 0)) := by
  unfold ahead
  rw [List.take_succ_eq_append_getElem h, List.any_append]; simp
theorem putIn_none {n : Net} (v : Int) : ∀ {l : List Hit}, ahead n l = false → putIn n v l = l ++ [⟨n, v⟩]
  | [], _ => rfl
  | x :: l, h => by
    unfold ahead at h
    rw [List.any_cons, Bool.or_eq_false_iff, decide_eq_false_iff_not] at h
    rw [putIn, if_neg h.1, putIn_none v (l := l) h.2]; rfl
theorem putIn_more {n : Net} (v : Int) (y : Hit) : ∀ {l : List Hit}, ahead n l = true → putIn n v (l ++ [y]) = putIn n v l ++ [y]
  | [], h => by simp [ahead] at h
  | x :: l, h => by
    rw [List.cons_append, putIn, putIn]
    split
    · rfl
    · rename_i hx
      unfold ahead at h
      rw [List.any_cons, Bool.or_eq_true, decide_eq_true_eq] at h
      rw [putIn_more v y (l := l) (h.resolve_left hx)]; rfl
theorem putIn_here {n : Net} (v : Int) {y : Hit} {l : List Hit} (h : ahead n l = false) (hy : cmpN n y.n < 0) : putIn n v (l ++ [y]) = l ++ [⟨n, v⟩] ++ [y] := by
  induction l with
  | nil => rw [List.nil_append, putIn, if_pos hy]; rfl
  | cons x l ih =>
    unfold ahead at h
    rw [List.any_cons, Bool.or_eq_false_iff, decide_eq_false_iff_not] at h
    rw [List.cons_append, putIn, if_neg h.1, ih h.2]; rfl
end Go.Proofs.Ytgnpnmdndlodlaa.Tr
/- Contracts: the order of subnets, and whether one holds an address, by the document. -/
namespace Go.Proofs.Ytgnpnmdndlodlaa.Ci
set_option maxRecDepth 100000
open Go.ChangeShapes Go.WideShapes Go.ChangeAt Go.RowKit
open Dec Words V4 V6 Ad
set_option linter.unusedVariables false
abbrev SNN (m n : Net) (w : World) (w' : World) : Prop := w'.cell? ⟨w.heap.size, 0, none⟩ = some (.bool m.a.v6) ∧ w'.cell? ⟨w.heap.size, 1, none⟩ = some (.int .u64 m.a.hi) ∧ w'.cell? ⟨w.heap.size, 2, none⟩ = some (.int .u64 m.a.lo) ∧ w'.cell? ⟨w.heap.size, 3, none⟩ = some (.int .i64 m.n) ∧ w'.cell? ⟨w.heap.size + 1, 0, none⟩ = some (.bool n.a.v6) ∧ w'.cell? ⟨w.heap.size + 1, 1, none⟩ = some (.int .u64 n.a.hi) ∧ w'.cell? ⟨w.heap.size + 1, 2, none⟩ = some (.int .u64 n.a.lo) ∧ w'.cell? ⟨w.heap.size + 1, 3, none⟩ = some (.int .i64 n.n) ∧ Stays ((w.alloc (.cells #[.bool m.a.v6, .int .u64 m.a.hi, .int .u64 m.a.lo, .int .i64 m.n] 27)).alloc (.cells #[.bool n.a.v6, .int .u64 n.a.hi, .int .u64 n.a.lo, .int .i64 n.n] 27)) w'
theorem SNN.of {m n : Net} {w w' : World} (h : Stays ((w.alloc (.cells #[.bool m.a.v6, .int .u64 m.a.hi, .int .u64 m.a.lo, .int .i64 m.n] 27)).alloc (.cells #[.bool n.a.v6, .int .u64 n.a.hi, .int .u64 n.a.lo, .int .i64 n.n] 27)) w') : SNN m n w w' := ⟨cells_left h (by simp [go_sem]), cells_left h (by simp [go_sem]), cells_left h (by simp [go_sem]), cells_left h (by simp [go_sem]), cells_left h (by simp [go_sem]), cells_left h (by simp [go_sem]), cells_left h (by simp [go_sem]), cells_left h (by simp [go_sem]), h⟩
theorem SNN.on {m n : Net} {w w1 w2 : World} (h : SNN m n w w1) (k : Below w1.heap.size w1 w2) : SNN m n w w2 := SNN.of (low_trans h.2.2.2.2.2.2.2.2 k)
theorem SNN.low {m n : Net} {w w1 : World} (h : SNN m n w w1) : Below w.heap.size w w1 := (((Below.refl _ _).alloc (Nat.le_refl _) _).alloc (by simp) _).trans (h.2.2.2.2.2.2.2.2.mono (by simp; omega))
abbrev SNA (n : Net) (a : Adr) (w : World) (w' : World) : Prop := w'.cell? ⟨w.heap.size, 0, none⟩ = some (.bool n.a.v6) ∧ w'.cell? ⟨w.heap.size, 1, none⟩ = some (.int .u64 n.a.hi) ∧ w'.cell? ⟨w.heap.size, 2, none⟩ = some (.int .u64 n.a.lo) ∧ w'.cell? ⟨w.heap.size, 3, none⟩ = some (.int .i64 n.n) ∧ w'.cell? ⟨w.heap.size + 1, 0, none⟩ = some (.bool a.v6) ∧ w'.cell? ⟨w.heap.size + 1, 1, none⟩ = some (.int .u64 a.hi) ∧ w'.cell? ⟨w.heap.size + 1, 2, none⟩ = some (.int .u64 a.lo) ∧ Stays ((w.alloc (.cells #[.bool n.a.v6, .int .u64 n.a.hi, .int .u64 n.a.lo, .int .i64 n.n] 27)).alloc (.cells #[.bool a.v6, .int .u64 a.hi, .int .u64 a.lo] 25)) w'
theorem SNA.of {n : Net} {a : Adr} {w w' : World} (h : Stays ((w.alloc (.cells #[.bool n.a.v6, .int .u64 n.a.hi, .int .u64 n.a.lo, .int .i64 n.n] 27)).alloc (.cells #[.bool a.v6, .int .u64 a.hi, .int .u64 a.lo] 25)) w') : SNA n a w w' := ⟨cells_left h (by simp [go_sem]), cells_left h (by simp [go_sem]), cells_left h (by simp [go_sem]), cells_left h (by simp [go_sem]), cells_left h (by simp [go_sem]), cells_left h (by simp [go_sem]), cells_left h (by simp [go_sem]), h⟩
theorem SNA.on {n : Net} {a : Adr} {w w1 w2 : World} (h : SNA n a w w1) (k : Below w1.heap.size w1 w2) : SNA n a w w2 := SNA.of (low_trans h.2.2.2.2.2.2.2 k)
theorem SNA.low {n : Net} {a : Adr} {w w1 : World} (h : SNA n a w w1) : Below w.heap.size w w1 := (((Below.refl _ _).alloc (Nat.le_refl _) _).alloc (by simp) _).trans (h.2.2.2.2.2.2.2.mono (by simp; omega))
set_option maxHeartbeats 4000000 in
theorem rcompareN_any (m n : Net) (w : World) (hm : m.ok) (hn : n.ok) :
    Calls Try.prog 22 #[.agg #[.bool m.a.v6, .int .u64 m.a.hi, .int .u64 m.a.lo, .int .i64 m.n], .agg #[.bool n.a.v6, .int .u64 n.a.hi, .int .u64 n.a.lo, .int .i64 n.n]] w fun e w' => e = .returned (.int .i64 (cmpN m n)) ∧ Below w.heap.size w w' := by
  have K1 : Hid (∀ W, SNN m n w W → Calls Try.prog 38 #[.agg #[.bool m.a.v6, .int .u64 m.a.hi, .int .u64 m.a.lo], .agg #[.bool n.a.v6, .int .u64 n.a.hi, .int .u64 n.a.lo]] W fun e w' => e = .returned (.int .i64 (cmpA m.a n.a)) ∧ SNN m n w w') := Lib.hid fun W h => (rcompare_any m.a n.a W hm.1 hn.1).mono fun e w' ⟨he, hb⟩ => ⟨he, h.on hb⟩
  have hk0 : SNN m n w ((w.alloc (.cells #[.bool m.a.v6, .int .u64 m.a.hi, .int .u64 m.a.lo, .int .i64 m.n] 27)).alloc (.cells #[.bool n.a.v6, .int .u64 n.a.hi, .int .u64 n.a.lo, .int .i64 n.n] 27)) := SNN.of (Below.refl _ _)
  obtain ⟨q, hq⟩ : ∃ q, q = cmpA m.a n.a := ⟨_, rfl⟩
  rw [← hq] at K1
  by_cases h0 : q = 0
  · subst h0
    rcases Int.lt_trichotomy m.n n.n with h1 | h1 | h1
    · have E : Hid (cmpN m n = -1) := Lib.hid (by unfold cmpN En.cmpI; rw [if_pos hq.symm]; split <;> (try split) <;> omega)
      have h2 : (m.n == n.n) = false := by simp; omega
      clear hq
      obtain ⟨c0, c1, c2, c3, c4, c5, c6, c7, hs_c⟩ := id hk0
      go_enter Try.func22, Try.ntmps22
      go_wp2_with fail
      (with_reducible refine (K1.out _ hk0).mono ?_)
      rintro e w1 ⟨rfl, hk1⟩
      clear c0 c1 c2 c3 c4 c5 c6 c7 hs_c
      obtain ⟨d0, d1, d2, d3, d4, d5, d6, d7, hs_d⟩ := id hk1
      go_wp2_with fail
      go_ret
      exact ⟨ret_i E.out.symm, SNN.low hk1⟩
    · have E : Hid (cmpN m n = 0) := Lib.hid (by unfold cmpN En.cmpI; rw [if_pos hq.symm]; split <;> (try split) <;> omega)
      have h2 : (m.n == n.n) = true := by simp; omega
      clear h1
      clear hq
      obtain ⟨c0, c1, c2, c3, c4, c5, c6, c7, hs_c⟩ := id hk0
      go_enter Try.func22, Try.ntmps22
      go_wp2_with fail
      (with_reducible refine (K1.out _ hk0).mono ?_)
      rintro e w1 ⟨rfl, hk1⟩
      clear c0 c1 c2 c3 c4 c5 c6 c7 hs_c
      obtain ⟨d0, d1, d2, d3, d4, d5, d6, d7, hs_d⟩ := id hk1
      go_wp2_with fail
      go_ret
      exact ⟨ret_i E.out.symm, SNN.low hk1⟩
    · have E : Hid (cmpN m n = 1) := Lib.hid (by unfold cmpN En.cmpI; rw [if_pos hq.symm]; split <;> (try split) <;> omega)
      have h2 : (m.n == n.n) = false := by simp; omega
      clear hq
      obtain ⟨c0, c1, c2, c3, c4, c5, c6, c7, hs_c⟩ := id hk0
      go_enter Try.func22, Try.ntmps22
      go_wp2_with fail
      (with_reducible refine (K1.out _ hk0).mono ?_)
      rintro e w1 ⟨rfl, hk1⟩
      clear c0 c1 c2 c3 c4 c5 c6 c7 hs_c
      obtain ⟨d0, d1, d2, d3, d4, d5, d6, d7, hs_d⟩ := id hk1
      go_wp2_with fail
      go_ret
      exact ⟨ret_i E.out.symm, SNN.low hk1⟩
  · have E : Hid (cmpN m n = q) := Lib.hid (by unfold cmpN; rw [if_neg (by omega)]; exact hq.symm)
    have h2 : (q != 0) = true := by simp; omega
    have h3 : (q == 0) = false := by simp; omega
    clear hq
    obtain ⟨c0, c1, c2, c3, c4, c5, c6, c7, hs_c⟩ := id hk0
    go_enter Try.func22, Try.ntmps22
    go_wp2_with fail
    (with_reducible refine (K1.out _ hk0).mono ?_)
    rintro e w1 ⟨rfl, hk1⟩
    clear c0 c1 c2 c3 c4 c5 c6 c7 hs_c
    obtain ⟨d0, d1, d2, d3, d4, d5, d6, d7, hs_d⟩ := id hk1
    go_wp2_with fail
    go_ret
    exact ⟨ret_i E.out.symm, SNN.low hk1⟩
set_option maxHeartbeats 8000000 in
theorem rhasN_any (n : Net) (a : Adr) (w : World) (hn : n.ok) (ha : a.ok) :
    Calls Try.prog 31 #[.agg #[.bool n.a.v6, .int .u64 n.a.hi, .int .u64 n.a.lo, .int .i64 n.n], .agg #[.bool a.v6, .int .u64 a.hi, .int .u64 a.lo]] w fun e w' => e = .returned (.bool (hasN n a)) ∧ Below w.heap.size w w' := by
  have K1 : Hid (∀ W, SNA n a w W → Calls Try.prog 21 #[.agg #[.bool n.a.v6, .int .u64 n.a.hi, .int .u64 n.a.lo, .int .i64 n.n]] W fun e w' => e = .returned (.bool (rightN n)) ∧ SNA n a w w') := Lib.hid fun W h => (rrightN_any n W hn).mono fun e w' ⟨he, hb⟩ => ⟨he, h.on hb⟩
  have K2 : Hid (∀ W, SNA n a w W → Calls Try.prog 36 #[.agg #[.bool a.v6, .int .u64 a.hi, .int .u64 a.lo]] W fun e w' => e = .returned (.bool (rightA a)) ∧ SNA n a w w') := Lib.hid fun W h => (rright_any a W ha).mono fun e w' ⟨he, hb⟩ => ⟨he, h.on hb⟩
  have hk0 : SNA n a w ((w.alloc (.cells #[.bool n.a.v6, .int .u64 n.a.hi, .int .u64 n.a.lo, .int .i64 n.n] 27)).alloc (.cells #[.bool a.v6, .int .u64 a.hi, .int .u64 a.lo] 25)) := SNA.of (Below.refl _ _)
  have HP : Hid (hasN n a = true → rightN n = true ∧ rightA a = true ∧ n.a.v6 = a.v6) := Lib.hid has_parts
  cases hrn : rightN n
  · have E : Hid (hasN n a = false) := Lib.hid (by rw [← Bool.not_eq_true]; intro h; have := (HP.out h).1; rw [hrn] at this; cases this)
    rw [hrn] at K1
    clear hrn
    obtain ⟨c0, c1, c2, c3, c4, c5, c6, hs_c⟩ := id hk0
    go_enter Try.func31, Try.ntmps31
    go_wp2_with fail
    (with_reducible refine (K1.out _ hk0).mono ?_)
    rintro e w1 ⟨rfl, hk1⟩
    go_wp2_with fail
    go_ret
    exact ⟨ret_b E.out.symm, SNA.low hk1⟩
  rw [hrn] at K1
  cases hra : rightA a
  · have E : Hid (hasN n a = false) := Lib.hid (by rw [← Bool.not_eq_true]; intro h; have := (HP.out h).2.1; rw [hra] at this; cases this)
    rw [hra] at K2
    clear hrn hra
    obtain ⟨c0, c1, c2, c3, c4, c5, c6, hs_c⟩ := id hk0
    go_enter Try.func31, Try.ntmps31
    go_wp2_with fail
    (with_reducible refine (K1.out _ hk0).mono ?_)
    rintro e w1 ⟨rfl, hk1⟩
    clear c0 c1 c2 c3 c4 c5 c6 hs_c
    obtain ⟨c0, c1, c2, c3, c4, c5, c6, hs_c⟩ := id hk1
    go_wp2_with fail
    (with_reducible refine (K2.out _ hk1).mono ?_)
    rintro e w2 ⟨rfl, hk2⟩
    go_wp2_with fail
    go_ret
    exact ⟨ret_b E.out.symm, SNA.low hk2⟩
  rw [hra] at K2
  cases hv : !(n.a.v6 == a.v6)
  · have hv2 : n.a.v6 = a.v6 := by simpa using hv
    have HB := Lib.hid (has_bits hn ha hrn hra hv2)
    have hm := right_made hrn
    have hbb := bitsA_two n.a
    have hbe := bitsA_v6 hv2
    have H2 := Lib.hid (bitN_two n.a)
    have H3 := Lib.hid (bitN_two a)
    have B1 : Hid (∀ j, j < bitsA n.a → ∀ W, SNA n a w W → Calls Try.prog 37 #[.agg #[.bool n.a.v6, .int .u64 n.a.hi, .int .u64 n.a.lo], .int .i64 (j : Nat)] W fun e w' => e = .returned (.int .i64 (bitN n.a j : Nat)) ∧ SNA n a w w') := Lib.hid fun j hj W h => by
      have := rbit_any n.a (j : Int) W hn.1 (by omega) (by omega)
      rw [bitA_in hj] at this
      exact this.mono fun e w' ⟨he, hb⟩ => ⟨he, h.on hb⟩
    have B2 : Hid (∀ j, j < bitsA n.a → ∀ W, SNA n a w W → Calls Try.prog 37 #[.agg #[.bool a.v6, .int .u64 a.hi, .int .u64 a.lo], .int .i64 (j : Nat)] W fun e w' => e = .returned (.int .i64 (bitN a j : Nat)) ∧ SNA n a w w') := Lib.hid fun j hj W h => by
      have := rbit_any a (j : Int) W ha (by omega) (by omega)
      rw [bitA_in (by omega)] at this
      exact this.mono fun e w' ⟨he, hb⟩ => ⟨he, h.on hb⟩
    obtain ⟨t, ht⟩ : ∃ t : Nat, n.n = (t : Int) := ⟨n.n.toNat, by omega⟩
    have HT := Lib.hid ht
    have htb : t ≤ bitsA n.a := by omega
    rw [show n.n.toNat = t by omega] at HB
    clear hrn hra hm hbe hv2 ht
    obtain ⟨c0, c1, c2, c3, c4, c5, c6, hs_c⟩ := id hk0
    go_enter Try.func31, Try.ntmps31
    go_wp2_with fail
    (with_reducible refine (K1.out _ hk0).mono ?_)
    rintro e w1 ⟨rfl, hk1⟩
    clear c0 c1 c2 c3 c4 c5 c6 hs_c
    obtain ⟨c0, c1, c2, c3, c4, c5, c6, hs_c⟩ := id hk1
    go_wp2_with fail
    (with_reducible refine (K2.out _ hk1).mono ?_)
    rintro e w2 ⟨rfl, hk2⟩
    clear c0 c1 c2 c3 c4 c5 c6 hs_c
    obtain ⟨c0, c1, c2, c3, c4, c5, c6, hs_c⟩ := id hk2
    go_wp2_with fail
    clear c0 c1 c2 c3 c4 c5 c6 hs_c
    go_loopw [5] (fun i wr => ∃ k : Nat, k ≤ t ∧ i = .int .i64 k ∧ Hid (∀ j, j < k → bitN n.a j = bitN a j) ∧ Hid (SNA n a w wr)) (fun i _ => t - (intOf i).toNat)
    case atStart => exact ⟨0, Nat.zero_le _, rfl, Lib.hid (fun j h => by omega), Lib.hid hk2⟩
    case round =>
      obtain ⟨k, hk, rfl, HA, HS⟩ := hrel
      obtain ⟨c0, c1, c2, c3, c4, c5, c6, hs_c⟩ := id HS.out
      rw [HT.out] at c3
      by_cases hlt : k < t
      · have G1 := Lib.hid (B1.out k (by omega))
        have G2 := Lib.hid (B2.out k (by omega))
        have hin := HS.out
        cases hd : (((bitN n.a k : Nat) : Int) != ((bitN a k : Nat) : Int))
        · have HA2 : Hid (∀ j, j < k + 1 → bitN n.a j = bitN a j) := Lib.hid fun j hj => by
            by_cases e : j = k
            · subst e; simp at hd; omega
            · exact HA.out j (by omega)
          go_wp2_with fail
          clear c0 c1 c2 c3 c4 c5 c6 hs_c
          have hne : Nonempty (Cls (SNA n a w)) := ⟨⟨_, hin⟩⟩
          have f0 : ∀ q : Cls (SNA n a w), q.w.cell? ⟨w.heap.size, 0, none⟩ = some (.bool n.a.v6) := fun q => q.h.1
          have f1 : ∀ q : Cls (SNA n a w), q.w.cell? ⟨w.heap.size, 1, none⟩ = some (.int .u64 n.a.hi) := fun q => q.h.2.1
          have f2 : ∀ q : Cls (SNA n a w), q.w.cell? ⟨w.heap.size, 2, none⟩ = some (.int .u64 n.a.lo) := fun q => q.h.2.2.1
          have f3 : ∀ q : Cls (SNA n a w), q.w.cell? ⟨w.heap.size, 3, none⟩ = some (.int .i64 n.n) := fun q => q.h.2.2.2.1
          have f4 : ∀ q : Cls (SNA n a w), q.w.cell? ⟨w.heap.size + 1, 0, none⟩ = some (.bool a.v6) := fun q => q.h.2.2.2.2.1
          have f5 : ∀ q : Cls (SNA n a w), q.w.cell? ⟨w.heap.size + 1, 1, none⟩ = some (.int .u64 a.hi) := fun q => q.h.2.2.2.2.2.1
          have f6 : ∀ q : Cls (SNA n a w), q.w.cell? ⟨w.heap.size + 1, 2, none⟩ = some (.int .u64 a.lo) := fun q => q.h.2.2.2.2.2.2.1
          refine Cls.region (SNA n a w) (by kernel_rfl) (by kernel_rfl) (SNA.of (low_drewN hin.2.2.2.2.2.2.2 1)) ?_
          repeat (go_big_quiet_step (first | (with_reducible exact Cls.call (G1.out _ (Cls.h _))) | (with_reducible exact Cls.call (G2.out _ (Cls.h _)))))
          refine wpQuiet_nil ?_
          intro n9
          have hk9 := n9.h
          generalize n9.w = w9 at hk9 ⊢
          clear hne n9 f0 f1 f2 f3 f4 f5 f6
          go_wp2
          go_roundw
          case rel => exact ⟨k + 1, by omega, by go_num, HA2, Lib.hid hk9⟩
          case measure => simp [intOf]; omega
        · have E : Hid (hasN n a = false) := Lib.hid (by
            rw [← Bool.not_eq_true, HB.out]
            intro h
            have := h k hlt
            simp at hd; omega)
          go_wp2_with fail
          clear c0 c1 c2 c3 c4 c5 c6 hs_c
          have hne : Nonempty (Cls (SNA n a w)) := ⟨⟨_, hin⟩⟩
          have f0 : ∀ q : Cls (SNA n a w), q.w.cell? ⟨w.heap.size, 0, none⟩ = some (.bool n.a.v6) := fun q => q.h.1
          have f1 : ∀ q : Cls (SNA n a w), q.w.cell? ⟨w.heap.size, 1, none⟩ = some (.int .u64 n.a.hi) := fun q => q.h.2.1
          have f2 : ∀ q : Cls (SNA n a w), q.w.cell? ⟨w.heap.size, 2, none⟩ = some (.int .u64 n.a.lo) := fun q => q.h.2.2.1
          have f3 : ∀ q : Cls (SNA n a w), q.w.cell? ⟨w.heap.size, 3, none⟩ = some (.int .i64 n.n) := fun q => q.h.2.2.2.1
          have f4 : ∀ q : Cls (SNA n a w), q.w.cell? ⟨w.heap.size + 1, 0, none⟩ = some (.bool a.v6) := fun q => q.h.2.2.2.2.1
          have f5 : ∀ q : Cls (SNA n a w), q.w.cell? ⟨w.heap.size + 1, 1, none⟩ = some (.int .u64 a.hi) := fun q => q.h.2.2.2.2.2.1
          have f6 : ∀ q : Cls (SNA n a w), q.w.cell? ⟨w.heap.size + 1, 2, none⟩ = some (.int .u64 a.lo) := fun q => q.h.2.2.2.2.2.2.1
          refine Cls.region (SNA n a w) (by kernel_rfl) (by kernel_rfl) (SNA.of (low_drewN hin.2.2.2.2.2.2.2 1)) ?_
          repeat (go_big_quiet_step (first | (with_reducible exact Cls.call (G1.out _ (Cls.h _))) | (with_reducible exact Cls.call (G2.out _ (Cls.h _)))))
          refine wpQuiet_nil ?_
          intro n9
          have hk9 := n9.h
          generalize n9.w = w9 at hk9 ⊢
          clear hne n9 f0 f1 f2 f3 f4 f5 f6
          go_wp2
          go_ret
          exact ⟨ret_b E.out.symm, SNA.low hk9⟩
      · have E : Hid (hasN n a = true) := Lib.hid (by rw [HB.out]; intro j hj; exact HA.out j (by omega))
        have HL := Lib.hid (SNA.low HS.out)
        go_wp2
        go_ret
        exact ⟨ret_b E.out.symm, HL.out⟩
  · have E : Hid (hasN n a = false) := Lib.hid (by rw [← Bool.not_eq_true]; intro h; have := (HP.out h).2.2; rw [this] at hv; simp at hv)
    clear hrn hra
    obtain ⟨c0, c1, c2, c3, c4, c5, c6, hs_c⟩ := id hk0
    go_enter Try.func31, Try.ntmps31
    go_wp2_with fail
    (with_reducible refine (K1.out _ hk0).mono ?_)
    rintro e w1 ⟨rfl, hk1⟩
    clear c0 c1 c2 c3 c4 c5 c6 hs_c
    obtain ⟨c0, c1, c2, c3, c4, c5, c6, hs_c⟩ := id hk1
    go_wp2_with fail
    (with_reducible refine (K2.out _ hk1).mono ?_)
    rintro e w2 ⟨rfl, hk2⟩
    clear c0 c1 c2 c3 c4 c5 c6 hs_c
    obtain ⟨c0, c1, c2, c3, c4, c5, c6, hs_c⟩ := id hk2
    go_wp2_with fail
    go_ret
    exact ⟨ret_b E.out.symm, SNA.low hk2⟩
end Go.Proofs.Ytgnpnmdndlodlaa.Ci
/- Contract of package cidr: the order of subnets. -/
namespace Go.Proofs.Ytgnpnmdndlodlaa.Ci
set_option maxRecDepth 100000
open Go.ChangeShapes Go.WideShapes Go.ChangeAt Go.RowKit
open Dec Words V4 V6 Ad
set_option linter.unusedVariables false
end Go.Proofs.Ytgnpnmdndlodlaa.Ci
/- Contracts of the document's own answers for layer 11: lists of subnets. -/
namespace Go.Proofs.Ytgnpnmdndlodlaa.Tr
set_option maxRecDepth 100000
open Go.ChangeShapes Go.WideShapes Go.ChangeAt Go.RowKit
open Dec Words V4 V6 Ad Ci
set_option linter.unusedVariables false
def encH (h : Hit) : List Value := [.bool h.n.a.v6, .int .u64 h.n.a.hi, .int .u64 h.n.a.lo, .int .i64 h.n.n, .int .i64 h.v]
theorem encH_len (h : Hit) : (encH h).length = 5 := rfl
theorem encH_one (h : Hit) : ∀ u ∈ encH h, u.oneCell' = true := by
  intro u hu
  simp only [encH, List.mem_cons, List.not_mem_nil, or_false] at hu
  rcases hu with rfl | rfl | rfl | rfl | rfl <;> rfl
abbrev Hits (w : World) (v : Value) (l : List Hit) : Prop := Recs 5 encH w v l
/-- The five cells of an element. -/
theorem hit_cells {w : World} {b o : Nat} {l : List Hit} (h : ∀ i (h : i < l.length) j u, (encH l[i])[j]? = some u → w.cell? ⟨b, o + i * 5 + j, none⟩ = some u) {k : Nat} (hk : k < l.length) :
    w.cell? ⟨b, o + k * 5, none⟩ = some (.bool l[k].n.a.v6) ∧ w.cell? ⟨b, o + k * 5 + 1, none⟩ = some (.int .u64 l[k].n.a.hi) ∧ w.cell? ⟨b, o + k * 5 + 2, none⟩ = some (.int .u64 l[k].n.a.lo) ∧ w.cell? ⟨b, o + k * 5 + 3, none⟩ = some (.int .i64 l[k].n.n) ∧ w.cell? ⟨b, o + k * 5 + 4, none⟩ = some (.int .i64 l[k].v) :=
  ⟨h k hk 0 _ rfl, h k hk 1 _ rfl, h k hk 2 _ rfl, h k hk 3 _ rfl, h k hk 4 _ rfl⟩
abbrev OwnH (B : Nat) (w : World) (v : Value) (l : List Hit) : Prop := w.ownsRow B 60 5 v l.length (flat encH l)
theorem own_empty (W : World) (b : Nat) (hb : b = W.heap.size) : OwnH b (W.alloc (.cells #[] 60)) (.slice (some ⟨b, 0, none⟩) 0 0) [] := by
  subst hb
  exact World.ownsRow_made W #[] 0 (Nat.le_refl _) (by simp [maxLen]) rfl
theorem own_drew {B : Nat} {W : World} {v : Value} {l : List Hit} (h : OwnH B W v l) (n : Nat) : OwnH B (W.drewN n) v l := h.kept (row := none) ⟨rfl, rfl, rfl, Nat.le_refl _, fun _ _ _ => rfl⟩ (by cases v.ownBlock <;> simp)
theorem cut_le (l : List Hit) (n : Net) (k : Nat) : (cut (l.take k) n).length ≤ l.length := Nat.le_trans (List.length_filter_le _ _) (by rw [List.length_take]; omega)
theorem append_hits {B : Nat} {W : World} {v : Value} {xs : List Hit} (hown : OwnH B W v xs) (y : Hit) (hlen : xs.length ≤ 1000000) (hB : B ≤ W.heap.size) :
    ∃ v' w', (Builtin.append_ #[31, 31] 31 #[v, .slice (some ⟨W.heap.size, 0, none⟩) 1 1]).run Try.prog (W.alloc (.cells #[.bool y.n.a.v6, .int .u64 y.n.a.hi, .int .u64 y.n.a.lo, .int .i64 y.n.n, .int .i64 y.v] 60)) = .ok v' w' ∧
      OwnH B w' v' (xs ++ [y]) ∧ Below B W w' := by
  obtain ⟨v', w', h1, h2, h3⟩ := append_recs (P := Try.prog) (z := .agg #[.bool false, .int .u64 0, .int .u64 0, .int .i64 0, .int .i64 0]) (bytes := 40) Try.underlying31 (by kernel_rfl) rfl (by decide) encH_len encH_one (hown.alloc (.cells #[.bool y.n.a.v6, .int .u64 y.n.a.hi, .int .u64 y.n.a.lo, .int .i64 y.n.n, .int .i64 y.v] 60))
    (Recs.lit encH_len W [y] #[.bool y.n.a.v6, .int .u64 y.n.a.hi, .int .u64 y.n.a.lo, .int .i64 y.n.n, .int .i64 y.v] 60 (by rw [flat_one]; rfl)) (by simp; omega) (by simp; omega) (Nat.le_trans hB (by simp))
  exact ⟨v', w', h1, h2, ((Below.refl B W).alloc hB _).trans h3⟩
set_option maxHeartbeats 4000000 in
theorem hcut_any (v : Value) (l : List Hit) (n : Net) (w : World) (h : Hits w v l) (hl : l.length ≤ 1000000) :
    Calls Try.prog 10 #[v, .agg #[.bool n.a.v6, .int .u64 n.a.hi, .int .u64 n.a.lo, .int .i64 n.n]] w fun e w' => ∃ u, e = .returned u ∧ Hits w' u (cut l n) ∧ Below w.heap.size w w' := by
  obtain ⟨A, c, rfl, hc, _, hcell⟩ := h
  have HC := Lib.hid hcell
  have NQ := fun (k : Nat) (hk : k < l.length) W => neqNet l[k].n n W
  clear hcell
  go_enter Try.func10, Try.ntmps10
  go_wp2_with fail
  go_loopw [5, 6] (fun out i wr => ∃ k : Nat, k ≤ l.length ∧ i = .int .i64 k ∧ Hid (OwnH (w.heap.size + 1) wr out (cut (l.take k) n)) ∧ Stays (w.alloc (.cells #[.bool n.a.v6, .int .u64 n.a.hi, .int .u64 n.a.lo, .int .i64 n.n] 27)) wr) (fun _ i _ => l.length - (intOf i).toNat)
  case atStart => exact ⟨0, Nat.zero_le _, rfl, Lib.hid (own_empty _ _ (by simp)), (Below.refl _ _).alloc (Nat.le_refl _) _⟩
  case round =>
    obtain ⟨k, hk, rfl, HO, hs⟩ := hrel
    by_cases hlt : k < l.length
    · obtain ⟨b, o, rfl, hb, hcc⟩ := HC.out (by omega)
      have hlow : Below w.heap.size w wr := ((Below.refl _ _).alloc (Nat.le_refl _) _).trans (hs.mono (by simp))
      obtain ⟨c0, c1, c2, c3, c4⟩ := hit_cells (fun i h j u hu => (hlow.cell (p := ⟨b, o + i * 5 + j, none⟩) hb).trans (hcc i h j u hu)) hlt
      obtain ⟨d0, d1, d2, d3, _⟩ := ST.of hs
      have N1 := NQ k hlt
      have HS := Lib.hid (cut_snoc l n k hlt)
      clear hcc
      cases hsame : sameN l[k].n n
      · go_wp2
        go_quiet (fail)
        have hs2 := low_drewN hs nq
        obtain ⟨v', w', R, HO2, hb2⟩ := append_hits (own_drew HO.out nq) l[k] (Nat.le_trans (cut_le l n k) hl) (by have := hs.size; simpa using this)
        have R1 := Lib.hid R
        have HE : Hid (OwnH (w.heap.size + 1) w' v' (cut (l.take (k + 1)) n)) := by rw [HS.out, hsame, if_neg (by simp)]; exact Lib.hid HO2
        have HB : Hid (Stays (w.alloc (.cells #[.bool n.a.v6, .int .u64 n.a.hi, .int .u64 n.a.lo, .int .i64 n.n] 27)) w') := Lib.hid (hs2.trans (hb2.mono (by simp)))
        clear R HO2 hb2 hs2
        go_wp2_with (first
          | (at_builtin; refine wpList_append_run rfl (.tmp 21) (.tmp 26) _ _ rfl rfl _ _ _ _ rfl rfl R1.out ?_)
          | fail)
        go_roundw
        case rel => exact ⟨k + 1, by omega, by go_num, HE, HB.out⟩
        case measure => simp [intOf]; omega
      · have HE : Hid (OwnH (w.heap.size + 1) wr u5 (cut (l.take (k + 1)) n)) := by rw [HS.out, hsame, if_pos rfl]; exact HO
        go_wp2
        go_quiet (fail)
        go_wp2
        go_roundw
        case rel => exact ⟨k + 1, by omega, by go_num, Lib.hid (own_drew HE.out _), low_drewN hs _⟩
        case measure => simp [intOf]; omega
    · have HE : Hid (Hits wr u5 (cut l n)) := by
        have := HO.out
        rw [List.take_of_length_le (by omega)] at this
        exact Lib.hid (recs_own encH_len (by decide) this).1
      have HB : Hid (Below w.heap.size w wr) := Lib.hid (((Below.refl _ _).alloc (Nat.le_refl _) _).trans (hs.mono (by simp)))
      go_wp2
      go_ret
      exact ⟨u5, rfl, HE.out, HB.out⟩
theorem found_none {l : List Hit} {n : Net} (h : ∀ i (h : i < l.length), sameN l[i].n n = false) : found l n = none := by
  unfold found
  rw [List.find?_eq_none]
  intro x hx
  obtain ⟨i, hi, rfl⟩ := List.getElem_of_mem hx
  rw [h i hi]; simp
theorem found_at {l : List Hit} {n : Net} (k : Nat) (hk : k < l.length) (h : ∀ i (h : i < k), sameN l[i].n n = false) (hs : sameN l[k].n n = true) : found l n = some l[k] := by
  unfold found
  rw [List.find?_eq_some_iff_getElem]
  exact ⟨hs, k, hk, rfl, fun j hj => by rw [h j hj]; rfl⟩
set_option maxHeartbeats 4000000 in
theorem rget_any (v : Value) (l : List Hit) (n : Net) (w : World) (h : Hits w v l) (hl : l.length ≤ 1000000) :
    Calls Try.prog 12 #[v, .agg #[.bool n.a.v6, .int .u64 n.a.hi, .int .u64 n.a.lo, .int .i64 n.n]] w fun e w' => e = .returned (.tuple #[.int .i64 (getV l n), .bool (getB l n)]) ∧ Below w.heap.size w w' := by
  obtain ⟨A, c, rfl, hc, _, hcell⟩ := h
  have HC := Lib.hid hcell
  have NQ := fun (k : Nat) (hk : k < l.length) W => eqNet l[k].n n W
  clear hcell
  go_enter Try.func12, Try.ntmps12
  go_wp2_with fail
  go_loopw [6] (fun i wr => ∃ k : Nat, k ≤ l.length ∧ i = .int .i64 k ∧ Hid (∀ i (h : i < l.length), i < k → sameN l[i].n n = false) ∧ Stays (w.alloc (.cells #[.bool n.a.v6, .int .u64 n.a.hi, .int .u64 n.a.lo, .int .i64 n.n] 27)) wr) (fun i _ => l.length - (intOf i).toNat)
  case atStart => exact ⟨0, Nat.zero_le _, rfl, Lib.hid (fun i _ h => by omega), Below.refl _ _⟩
  case round =>
    obtain ⟨k, hk, rfl, HO, hs⟩ := hrel
    have HB : Hid (Below w.heap.size w wr) := Lib.hid (((Below.refl _ _).alloc (Nat.le_refl _) _).trans (hs.mono (by simp)))
    by_cases hlt : k < l.length
    · obtain ⟨b, o, rfl, hb, hcc⟩ := HC.out (by omega)
      obtain ⟨c0, c1, c2, c3, c4⟩ := hit_cells (fun i h j u hu => (HB.out.cell (p := ⟨b, o + i * 5 + j, none⟩) hb).trans (hcc i h j u hu)) hlt
      obtain ⟨d0, d1, d2, d3, _⟩ := ST.of hs
      have N1 := NQ k hlt
      clear hcc
      cases hsame : sameN l[k].n n
      · have HE : Hid (∀ i (h : i < l.length), i < k + 1 → sameN l[i].n n = false) := Lib.hid fun i h hi => by
          by_cases e : i = k
          · subst e; exact hsame
          · exact HO.out i h (by omega)
        go_wp2
        go_quiet (fail)
        go_wp2
        go_roundw
        case rel => exact ⟨k + 1, by omega, by go_num, HE, low_drewN hs _⟩
        case measure => simp [intOf]; omega
      · have HE : Hid (getV l n = l[k].v ∧ getB l n = true) := by
          have := found_at k hlt (fun i h => HO.out i (by omega) h) hsame
          unfold getV getB
          rw [this]; exact Lib.hid ⟨rfl, rfl⟩
        go_wp2
        go_quiet (fail)
        go_wp2
        go_ret2
        exact ⟨ret_ib HE.out.1.symm HE.out.2.symm, low_drewN HB.out _⟩
    · have HE : Hid (getV l n = 0 ∧ getB l n = false) := by
        have := found_none (l := l) (n := n) (fun i h => HO.out i h (by omega))
        unfold getV getB
        rw [this]; exact Lib.hid ⟨rfl, rfl⟩
      go_wp2
      go_ret2
      exact ⟨ret_ib HE.out.1.symm HE.out.2.symm, HB.out⟩
end Go.Proofs.Ytgnpnmdndlodlaa.Tr
/- Contracts of the document's own answers for layer 11: what is put in, and which subnets hold an address. -/
namespace Go.Proofs.Ytgnpnmdndlodlaa.Tr
set_option maxRecDepth 100000
open Go.ChangeShapes Go.WideShapes Go.ChangeAt Go.RowKit
open Dec Words V4 V6 Ad Ci
set_option linter.unusedVariables false
theorem keep_call {P : Program} {f : FuncId} {args : Array Value} {wr : World} {v : Value} (h : ∀ W, Calls P f args W fun e w' => e = .returned v ∧ Below W.heap.size W w') : ∀ W, Stays wr W → Calls P f args W fun e w' => e = .returned v ∧ Stays wr w' :=
  fun W hs => (h W).mono fun e w' ⟨he, hb⟩ => ⟨he, low_trans hs hb⟩
theorem cut_ok {l : List Hit} (h : ∀ x ∈ l, x.ok) (n : Net) : ∀ x ∈ cut l n, x.ok := fun x hx => h x (List.mem_filter.1 hx).1
def upTo (n : Net) (V : Int) (l : List Hit) : List Hit := if ahead n l then putIn n V l else l
theorem upTo_done {n : Net} {V : Int} {L : List Hit} {k : Nat} (h : k < L.length) (ha : ahead n (L.take k) = true) : ahead n (L.take (k + 1)) = true ∧ upTo n V (L.take (k + 1)) = upTo n V (L.take k) ++ [L[k]] := by
  have e : ahead n (L.take (k + 1)) = true := by rw [ahead_snoc n L k h, ha]; rfl
  refine ⟨e, ?_⟩
  unfold upTo
  rw [if_pos e, if_pos ha, List.take_succ_eq_append_getElem h, putIn_more V _ ha]
theorem upTo_here {n : Net} {V : Int} {L : List Hit} {k : Nat} (h : k < L.length) (ha : ahead n (L.take k) = false) (hc : cmpN n L[k].n < 0) : ahead n (L.take (k + 1)) = true ∧ upTo n V (L.take (k + 1)) = upTo n V (L.take k) ++ [⟨n, V⟩] ++ [L[k]] := by
  have e : ahead n (L.take (k + 1)) = true := by rw [ahead_snoc n L k h, ha]; simp [hc]
  refine ⟨e, ?_⟩
  unfold upTo
  rw [if_pos e, if_neg (by rw [ha]; simp), List.take_succ_eq_append_getElem h, putIn_here V ha hc]
theorem upTo_not {n : Net} {V : Int} {L : List Hit} {k : Nat} (h : k < L.length) (ha : ahead n (L.take k) = false) (hc : ¬ cmpN n L[k].n < 0) : ahead n (L.take (k + 1)) = false ∧ upTo n V (L.take (k + 1)) = upTo n V (L.take k) ++ [L[k]] := by
  have e : ahead n (L.take (k + 1)) = false := by rw [ahead_snoc n L k h, ha]; simp; omega
  refine ⟨e, ?_⟩
  unfold upTo
  rw [if_neg (by rw [e]; simp), if_neg (by rw [ha]; simp), List.take_succ_eq_append_getElem h]
theorem putIn_len (n : Net) (V : Int) : ∀ l : List Hit, (putIn n V l).length = l.length + 1
  | [] => rfl
  | x :: l => by
    unfold putIn
    split
    · rfl
    · simp [putIn_len n V l]
theorem upTo_le (n : Net) (V : Int) (L : List Hit) (k : Nat) : (upTo n V (L.take k)).length ≤ L.length + 1 := by
  unfold upTo
  split
  · rw [putIn_len, List.length_take]; omega
  · rw [List.length_take]; omega
theorem upTo_all {n : Net} {V : Int} {L : List Hit} {k : Nat} (h : L.length ≤ k) (b : Bool) (hb : ahead n (L.take k) = b) : (b = true → putIn n V L = upTo n V (L.take k)) ∧ (b = false → putIn n V L = upTo n V (L.take k) ++ [⟨n, V⟩]) := by
  rw [List.take_of_length_le h] at hb ⊢
  unfold upTo
  rw [hb]
  exact ⟨fun e => by rw [e, if_pos rfl], fun e => by rw [e, if_neg (by simp)]; exact putIn_none V (by rw [hb, e])⟩
set_option maxHeartbeats 2000000 in
theorem rwith_any (v : Value) (l : List Hit) (n : Net) (V : Int) (w : World) (h : Hits w v l) (hl : l.length ≤ 900000) (hok : ∀ x ∈ l, x.ok) (hn : n.ok) :
    Calls Try.prog 9 #[v, .agg #[.bool n.a.v6, .int .u64 n.a.hi, .int .u64 n.a.lo, .int .i64 n.n], .int .i64 V] w fun e w' => ∃ u, e = .returned u ∧ Hits w' u (withH l n V) ∧ Below w.heap.size w w' := by
  have K1 := Lib.hid (fun W => rrightN_any n W hn)
  cases hr : rightN n
  · have E : Hid (withH l n V = l) := Lib.hid (by unfold withH; rw [hr]; rfl)
    rw [hr] at K1
    clear hr
    have HV := Lib.hid h
    obtain ⟨A, c, rfl, _, _, _⟩ := h
    go_enter Try.func9, Try.ntmps9
    go_wp2_with fail
    (with_reducible refine (K1.out _).mono ?_)
    rintro e w1 ⟨rfl, hb1⟩
    have hb : Hid (Below w.heap.size w w1) := Lib.hid (((Below.refl _ _).alloc (Nat.le_refl _) _).trans (hb1.mono (by simp)))
    clear hb1
    go_wp2_with fail
    go_ret
    exact ⟨_, rfl, by rw [E.out]; exact HV.out.below hb.out, hb.out⟩
  · have E : Hid (withH l n V = putIn n V (cut l n)) := Lib.hid (by unfold withH; rw [hr]; rfl)
    rw [hr] at K1
    clear hr
    have hk0 : ST n w (w.alloc (.cells #[.bool n.a.v6, .int .u64 n.a.hi, .int .u64 n.a.lo, .int .i64 n.n] 27)) := ST.of (Below.refl _ _)
    obtain ⟨d0, d1, d2, d3, hs_d⟩ := id hk0
    have HV := Lib.hid (fun W (hW : Below w.heap.size w W) => hcut_any v l n W (h.below hW) (by omega))
    obtain ⟨A, c, rfl, _, _, _⟩ := h
    go_enter Try.func9, Try.ntmps9
    go_wp2_with fail
    (with_reducible refine (K1.out _).mono ?_)
    rintro e w1 ⟨rfl, hb1⟩
    have hk1 : ST n w w1 := ST.of hb1
    clear d0 d1 d2 d3 hs_d
    obtain ⟨d0, d1, d2, d3, hs_d⟩ := id hk1
    go_wp2_with fail
    (with_reducible refine (HV.out _ (((Below.refl _ _).alloc (Nat.le_refl _) _).trans (hb1.mono (by simp)))).mono ?_)
    rintro e w2 ⟨u, rfl, hu, hb2⟩
    have hk2 : ST n w w2 := ST.of (low_trans hs_d hb2)
    have hB2 : Hid (Below w.heap.size w w2) := Lib.hid (((Below.refl _ _).alloc (Nat.le_refl _) _).trans (hk2.2.2.2.2.mono (by simp)))
    have hsz : w.heap.size < w2.heap.size := by have := hk2.2.2.2.2.size; simp at this; omega
    obtain ⟨L, hL⟩ : ∃ L, L = cut l n := ⟨_, rfl⟩
    have hLok : Hid (∀ x ∈ L, x.ok) := Lib.hid (by rw [hL]; exact cut_ok hok n)
    have hLl : L.length ≤ 900000 := by rw [hL]; exact Nat.le_trans (List.length_filter_le _ _) hl
    rw [← hL] at hu E
    clear d0 d1 d2 d3 hs_d hb1 hb2 hk1 hok hL HV
    obtain ⟨A2, c2, rfl, hc2, _, hcell⟩ := hu
    have HC := Lib.hid hcell
    have HK := Lib.hid hk2
    clear hcell hk2 hk0
    go_wp2_with fail
    go_loopw [7, 8, 9] (fun out d i wr => ∃ k : Nat, k ≤ L.length ∧ i = .int .i64 k ∧ d = .bool (ahead n (L.take k)) ∧ Hid (OwnH w2.heap.size wr out (upTo n V (L.take k))) ∧ Below w2.heap.size w2 wr) (fun _ _ i _ => L.length - (intOf i).toNat)
    case atStart => exact ⟨0, Nat.zero_le _, rfl, rfl, Lib.hid (own_empty _ _ rfl), (Below.refl _ _).alloc (Nat.le_refl _) _⟩
    case round =>
      obtain ⟨k, hk, rfl, rfl, HO, hs⟩ := hrel
      have hsw : w2.heap.size ≤ wr.heap.size := hs.size
      have hb4 : w.heap.size < wr.heap.size := by omega
      obtain ⟨d0, d1, d2, d3, _⟩ := ST.of (low_trans HK.out.2.2.2.2 hs)
      by_cases hlt : k < L.length
      · obtain ⟨b, o, rfl, hb, hcc⟩ := HC.out (by omega)
        have hb3 : b < wr.heap.size := by omega
        obtain ⟨c0, c1, c2', c3, c4⟩ := hit_cells (fun i h j u hu => (hs.cell (p := ⟨b, o + i * 5 + j, none⟩) hb).trans (hcc i h j u hu)) hlt
        clear hcc
        have hxo : (L[k]).n.ok := (hLok.out (L[k]) (List.getElem_mem hlt)).1
        have KC : Hid (∀ W, Stays wr W → Calls Try.prog 22 #[.agg #[.bool n.a.v6, .int .u64 n.a.hi, .int .u64 n.a.lo, .int .i64 n.n], .agg #[.bool L[k].n.a.v6, .int .u64 L[k].n.a.hi, .int .u64 L[k].n.a.lo, .int .i64 L[k].n.n]] W fun e w' => e = .returned (.int .i64 (cmpN n L[k].n)) ∧ Stays wr w') := Lib.hid (fun W hs => (rcompareN_any n L[k].n W hn hxo).mono fun e w' ⟨he, hb⟩ => ⟨he, low_trans hs hb⟩)
        have hpl := upTo_le n V L k
        cases ha : ahead n (L.take k)
        · by_cases hcmp : cmpN n L[k].n < 0
          · have hd : decide (cmpN n L[k].n < 0) = true := decide_eq_true hcmp
            have HP := Lib.hid (upTo_here (V := V) hlt ha hcmp)
            go_wp2_with fail
            have hne : Nonempty (Cls (Stays wr)) := ⟨⟨wr, Below.refl _ _⟩⟩
            have f0 : ∀ q : Cls (Stays wr), q.w.cell? ⟨b, o + k * 5, none⟩ = some (.bool L[k].n.a.v6) := fun q => (Below.cell (p := ⟨b, o + k * 5, none⟩) q.h hb3).trans c0
            have f1 : ∀ q : Cls (Stays wr), q.w.cell? ⟨b, o + k * 5 + 1, none⟩ = some (.int .u64 L[k].n.a.hi) := fun q => (Below.cell (p := ⟨b, o + k * 5 + 1, none⟩) q.h hb3).trans c1
            have f2 : ∀ q : Cls (Stays wr), q.w.cell? ⟨b, o + k * 5 + 2, none⟩ = some (.int .u64 L[k].n.a.lo) := fun q => (Below.cell (p := ⟨b, o + k * 5 + 2, none⟩) q.h hb3).trans c2'
            have f3 : ∀ q : Cls (Stays wr), q.w.cell? ⟨b, o + k * 5 + 3, none⟩ = some (.int .i64 L[k].n.n) := fun q => (Below.cell (p := ⟨b, o + k * 5 + 3, none⟩) q.h hb3).trans c3
            have f4 : ∀ q : Cls (Stays wr), q.w.cell? ⟨b, o + k * 5 + 4, none⟩ = some (.int .i64 L[k].v) := fun q => (Below.cell (p := ⟨b, o + k * 5 + 4, none⟩) q.h hb3).trans c4
            have f5 : ∀ q : Cls (Stays wr), q.w.cell? ⟨w.heap.size, 0, none⟩ = some (.bool n.a.v6) := fun q => (Below.cell (p := ⟨w.heap.size, 0, none⟩) q.h hb4).trans d0
            have f6 : ∀ q : Cls (Stays wr), q.w.cell? ⟨w.heap.size, 1, none⟩ = some (.int .u64 n.a.hi) := fun q => (Below.cell (p := ⟨w.heap.size, 1, none⟩) q.h hb4).trans d1
            have f7 : ∀ q : Cls (Stays wr), q.w.cell? ⟨w.heap.size, 2, none⟩ = some (.int .u64 n.a.lo) := fun q => (Below.cell (p := ⟨w.heap.size, 2, none⟩) q.h hb4).trans d2
            have f8 : ∀ q : Cls (Stays wr), q.w.cell? ⟨w.heap.size, 3, none⟩ = some (.int .i64 n.n) := fun q => (Below.cell (p := ⟨w.heap.size, 3, none⟩) q.h hb4).trans d3
            refine Cls.region (Stays wr) (by kernel_rfl) (by kernel_rfl) (low_drewN (Below.refl _ _) 1) ?_
            repeat (go_big_quiet_step (first | fail | (with_reducible exact Cls.call (KC.out _ (Cls.h _)))))
            refine wpQuiet_nil ?_
            intro n9
            have hs9 := n9.h
            generalize n9.w = w9 at hs9 ⊢
            clear hne n9 f0 f1 f2 f3 f4 f5 f6 f7 f8
            have HO9 : Hid (OwnH w2.heap.size w9 u7 (upTo n V (L.take k))) := Lib.hid (HO.out.kept (row := none) ⟨hs9.os, hs9.tape, hs9.output, hs9.size, fun j hj _ => hs9.block j hj⟩ (by cases u7.ownBlock <;> simp))
            have hsz9 := hs9.size
            obtain ⟨g0, g1, g2, g3, g4⟩ : w9.cell? ⟨b, o + k * 5, none⟩ = some (.bool L[k].n.a.v6) ∧ w9.cell? ⟨b, o + k * 5 + 1, none⟩ = some (.int .u64 L[k].n.a.hi) ∧ w9.cell? ⟨b, o + k * 5 + 2, none⟩ = some (.int .u64 L[k].n.a.lo) ∧ w9.cell? ⟨b, o + k * 5 + 3, none⟩ = some (.int .i64 L[k].n.n) ∧ w9.cell? ⟨b, o + k * 5 + 4, none⟩ = some (.int .i64 L[k].v) := ⟨(Below.cell (p := ⟨b, o + k * 5, none⟩) hs9 hb3).trans c0, (Below.cell (p := ⟨b, o + k * 5 + 1, none⟩) hs9 hb3).trans c1, (Below.cell (p := ⟨b, o + k * 5 + 2, none⟩) hs9 hb3).trans c2', (Below.cell (p := ⟨b, o + k * 5 + 3, none⟩) hs9 hb3).trans c3, (Below.cell (p := ⟨b, o + k * 5 + 4, none⟩) hs9 hb3).trans c4⟩
            obtain ⟨e0, e1, e2, e3⟩ : w9.cell? ⟨w.heap.size, 0, none⟩ = some (.bool n.a.v6) ∧ w9.cell? ⟨w.heap.size, 1, none⟩ = some (.int .u64 n.a.hi) ∧ w9.cell? ⟨w.heap.size, 2, none⟩ = some (.int .u64 n.a.lo) ∧ w9.cell? ⟨w.heap.size, 3, none⟩ = some (.int .i64 n.n) := ⟨(Below.cell (p := ⟨w.heap.size, 0, none⟩) hs9 hb4).trans d0, (Below.cell (p := ⟨w.heap.size, 1, none⟩) hs9 hb4).trans d1, (Below.cell (p := ⟨w.heap.size, 2, none⟩) hs9 hb4).trans d2, (Below.cell (p := ⟨w.heap.size, 3, none⟩) hs9 hb4).trans d3⟩
            obtain ⟨v', w', R, HO2, hb5⟩ := append_hits (B := w2.heap.size) (HO9.out) (⟨n, V⟩ : Hit) (by omega) (by omega)
            have R1 := Lib.hid R
            have hs5 : Below w2.heap.size wr w' := (hs9.mono hsw).trans hb5
            clear R hb5
            obtain ⟨k0, k1, k2, k3, k4⟩ : w'.cell? ⟨b, o + k * 5, none⟩ = some (.bool L[k].n.a.v6) ∧ w'.cell? ⟨b, o + k * 5 + 1, none⟩ = some (.int .u64 L[k].n.a.hi) ∧ w'.cell? ⟨b, o + k * 5 + 2, none⟩ = some (.int .u64 L[k].n.a.lo) ∧ w'.cell? ⟨b, o + k * 5 + 3, none⟩ = some (.int .i64 L[k].n.n) ∧ w'.cell? ⟨b, o + k * 5 + 4, none⟩ = some (.int .i64 L[k].v) := ⟨(Below.cell (p := ⟨b, o + k * 5, none⟩) hs5 hb).trans c0, (Below.cell (p := ⟨b, o + k * 5 + 1, none⟩) hs5 hb).trans c1, (Below.cell (p := ⟨b, o + k * 5 + 2, none⟩) hs5 hb).trans c2', (Below.cell (p := ⟨b, o + k * 5 + 3, none⟩) hs5 hb).trans c3, (Below.cell (p := ⟨b, o + k * 5 + 4, none⟩) hs5 hb).trans c4⟩
            obtain ⟨v2, w3, R, HO3, hb6⟩ := append_hits (B := w2.heap.size) HO2 L[k] (by rw [List.length_append]; simp; omega) (by have := hs5.size; omega)
            have R2 := Lib.hid R
            have HE : Hid (OwnH w2.heap.size w3 v2 (upTo n V (L.take (k + 1)))) := by rw [HP.out.2]; exact Lib.hid HO3
            have HB : Hid (Below w2.heap.size w2 w3) := Lib.hid ((hs.trans hs5).trans hb6)
            clear R hb6 HO2 HO3
            go_wp2_with (first
              | (at_builtin; refine wpList_append_run rfl (.tmp 36) (.tmp 40) _ _ rfl rfl _ _ _ _ rfl rfl R1.out ?_)
              | (at_builtin; refine wpList_append_run rfl (.tmp 42) (.tmp 47) _ _ rfl rfl _ _ _ _ rfl rfl R2.out ?_)
              | fail)
            go_roundw
            case rel => exact ⟨k + 1, by omega, by go_num, by rw [HP.out.1], HE, HB.out⟩
            case measure => simp [intOf]; omega
          · have hd : decide (cmpN n L[k].n < 0) = false := decide_eq_false hcmp
            have HP := Lib.hid (upTo_not (V := V) hlt ha hcmp)
            go_wp2_with fail
            have hne : Nonempty (Cls (Stays wr)) := ⟨⟨wr, Below.refl _ _⟩⟩
            have f0 : ∀ q : Cls (Stays wr), q.w.cell? ⟨b, o + k * 5, none⟩ = some (.bool L[k].n.a.v6) := fun q => (Below.cell (p := ⟨b, o + k * 5, none⟩) q.h hb3).trans c0
            have f1 : ∀ q : Cls (Stays wr), q.w.cell? ⟨b, o + k * 5 + 1, none⟩ = some (.int .u64 L[k].n.a.hi) := fun q => (Below.cell (p := ⟨b, o + k * 5 + 1, none⟩) q.h hb3).trans c1
            have f2 : ∀ q : Cls (Stays wr), q.w.cell? ⟨b, o + k * 5 + 2, none⟩ = some (.int .u64 L[k].n.a.lo) := fun q => (Below.cell (p := ⟨b, o + k * 5 + 2, none⟩) q.h hb3).trans c2'
            have f3 : ∀ q : Cls (Stays wr), q.w.cell? ⟨b, o + k * 5 + 3, none⟩ = some (.int .i64 L[k].n.n) := fun q => (Below.cell (p := ⟨b, o + k * 5 + 3, none⟩) q.h hb3).trans c3
            have f4 : ∀ q : Cls (Stays wr), q.w.cell? ⟨b, o + k * 5 + 4, none⟩ = some (.int .i64 L[k].v) := fun q => (Below.cell (p := ⟨b, o + k * 5 + 4, none⟩) q.h hb3).trans c4
            have f5 : ∀ q : Cls (Stays wr), q.w.cell? ⟨w.heap.size, 0, none⟩ = some (.bool n.a.v6) := fun q => (Below.cell (p := ⟨w.heap.size, 0, none⟩) q.h hb4).trans d0
            have f6 : ∀ q : Cls (Stays wr), q.w.cell? ⟨w.heap.size, 1, none⟩ = some (.int .u64 n.a.hi) := fun q => (Below.cell (p := ⟨w.heap.size, 1, none⟩) q.h hb4).trans d1
            have f7 : ∀ q : Cls (Stays wr), q.w.cell? ⟨w.heap.size, 2, none⟩ = some (.int .u64 n.a.lo) := fun q => (Below.cell (p := ⟨w.heap.size, 2, none⟩) q.h hb4).trans d2
            have f8 : ∀ q : Cls (Stays wr), q.w.cell? ⟨w.heap.size, 3, none⟩ = some (.int .i64 n.n) := fun q => (Below.cell (p := ⟨w.heap.size, 3, none⟩) q.h hb4).trans d3
            refine Cls.region (Stays wr) (by kernel_rfl) (by kernel_rfl) (low_drewN (Below.refl _ _) 1) ?_
            repeat (go_big_quiet_step (first | fail | (with_reducible exact Cls.call (KC.out _ (Cls.h _)))))
            refine wpQuiet_nil ?_
            intro n9
            have hs9 := n9.h
            generalize n9.w = w9 at hs9 ⊢
            clear hne n9 f0 f1 f2 f3 f4 f5 f6 f7 f8
            have HO9 : Hid (OwnH w2.heap.size w9 u7 (upTo n V (L.take k))) := Lib.hid (HO.out.kept (row := none) ⟨hs9.os, hs9.tape, hs9.output, hs9.size, fun j hj _ => hs9.block j hj⟩ (by cases u7.ownBlock <;> simp))
            have hsz9 := hs9.size
            obtain ⟨g0, g1, g2, g3, g4⟩ : w9.cell? ⟨b, o + k * 5, none⟩ = some (.bool L[k].n.a.v6) ∧ w9.cell? ⟨b, o + k * 5 + 1, none⟩ = some (.int .u64 L[k].n.a.hi) ∧ w9.cell? ⟨b, o + k * 5 + 2, none⟩ = some (.int .u64 L[k].n.a.lo) ∧ w9.cell? ⟨b, o + k * 5 + 3, none⟩ = some (.int .i64 L[k].n.n) ∧ w9.cell? ⟨b, o + k * 5 + 4, none⟩ = some (.int .i64 L[k].v) := ⟨(Below.cell (p := ⟨b, o + k * 5, none⟩) hs9 hb3).trans c0, (Below.cell (p := ⟨b, o + k * 5 + 1, none⟩) hs9 hb3).trans c1, (Below.cell (p := ⟨b, o + k * 5 + 2, none⟩) hs9 hb3).trans c2', (Below.cell (p := ⟨b, o + k * 5 + 3, none⟩) hs9 hb3).trans c3, (Below.cell (p := ⟨b, o + k * 5 + 4, none⟩) hs9 hb3).trans c4⟩
            obtain ⟨v', w', R, HO2, hb5⟩ := append_hits (B := w2.heap.size) (HO9.out) L[k] (by omega) (by omega)
            have R1 := Lib.hid R
            have HE : Hid (OwnH w2.heap.size w' v' (upTo n V (L.take (k + 1)))) := by rw [HP.out.2]; exact Lib.hid HO2
            have HB : Hid (Below w2.heap.size w2 w') := Lib.hid ((hs.trans (hs9.mono hsw)).trans hb5)
            clear R hb5 HO2
            go_wp2_with (first
              | (at_builtin; refine wpList_append_run rfl (.tmp 42) (.tmp 47) _ _ rfl rfl _ _ _ _ rfl rfl R1.out ?_)
              | fail)
            go_roundw
            case rel => exact ⟨k + 1, by omega, by go_num, by rw [HP.out.1], HE, HB.out⟩
            case measure => simp [intOf]; omega
        · have HP := Lib.hid (upTo_done (V := V) hlt ha)
          go_wp2_with fail
          have hne : Nonempty (Cls (Stays wr)) := ⟨⟨wr, Below.refl _ _⟩⟩
          have f0 : ∀ q : Cls (Stays wr), q.w.cell? ⟨b, o + k * 5, none⟩ = some (.bool L[k].n.a.v6) := fun q => (Below.cell (p := ⟨b, o + k * 5, none⟩) q.h hb3).trans c0
          have f1 : ∀ q : Cls (Stays wr), q.w.cell? ⟨b, o + k * 5 + 1, none⟩ = some (.int .u64 L[k].n.a.hi) := fun q => (Below.cell (p := ⟨b, o + k * 5 + 1, none⟩) q.h hb3).trans c1
          have f2 : ∀ q : Cls (Stays wr), q.w.cell? ⟨b, o + k * 5 + 2, none⟩ = some (.int .u64 L[k].n.a.lo) := fun q => (Below.cell (p := ⟨b, o + k * 5 + 2, none⟩) q.h hb3).trans c2'
          have f3 : ∀ q : Cls (Stays wr), q.w.cell? ⟨b, o + k * 5 + 3, none⟩ = some (.int .i64 L[k].n.n) := fun q => (Below.cell (p := ⟨b, o + k * 5 + 3, none⟩) q.h hb3).trans c3
          have f4 : ∀ q : Cls (Stays wr), q.w.cell? ⟨b, o + k * 5 + 4, none⟩ = some (.int .i64 L[k].v) := fun q => (Below.cell (p := ⟨b, o + k * 5 + 4, none⟩) q.h hb3).trans c4
          have f5 : ∀ q : Cls (Stays wr), q.w.cell? ⟨w.heap.size, 0, none⟩ = some (.bool n.a.v6) := fun q => (Below.cell (p := ⟨w.heap.size, 0, none⟩) q.h hb4).trans d0
          have f6 : ∀ q : Cls (Stays wr), q.w.cell? ⟨w.heap.size, 1, none⟩ = some (.int .u64 n.a.hi) := fun q => (Below.cell (p := ⟨w.heap.size, 1, none⟩) q.h hb4).trans d1
          have f7 : ∀ q : Cls (Stays wr), q.w.cell? ⟨w.heap.size, 2, none⟩ = some (.int .u64 n.a.lo) := fun q => (Below.cell (p := ⟨w.heap.size, 2, none⟩) q.h hb4).trans d2
          have f8 : ∀ q : Cls (Stays wr), q.w.cell? ⟨w.heap.size, 3, none⟩ = some (.int .i64 n.n) := fun q => (Below.cell (p := ⟨w.heap.size, 3, none⟩) q.h hb4).trans d3
          refine Cls.region (Stays wr) (by kernel_rfl) (by kernel_rfl) (low_drewN (Below.refl _ _) 1) ?_
          repeat (go_big_quiet_step (first | fail | (with_reducible exact Cls.call (KC.out _ (Cls.h _)))))
          refine wpQuiet_nil ?_
          intro n9
          have hs9 := n9.h
          generalize n9.w = w9 at hs9 ⊢
          clear hne n9 f0 f1 f2 f3 f4 f5 f6 f7 f8
          have HO9 : Hid (OwnH w2.heap.size w9 u7 (upTo n V (L.take k))) := Lib.hid (HO.out.kept (row := none) ⟨hs9.os, hs9.tape, hs9.output, hs9.size, fun j hj _ => hs9.block j hj⟩ (by cases u7.ownBlock <;> simp))
          have hsz9 := hs9.size
          obtain ⟨g0, g1, g2, g3, g4⟩ : w9.cell? ⟨b, o + k * 5, none⟩ = some (.bool L[k].n.a.v6) ∧ w9.cell? ⟨b, o + k * 5 + 1, none⟩ = some (.int .u64 L[k].n.a.hi) ∧ w9.cell? ⟨b, o + k * 5 + 2, none⟩ = some (.int .u64 L[k].n.a.lo) ∧ w9.cell? ⟨b, o + k * 5 + 3, none⟩ = some (.int .i64 L[k].n.n) ∧ w9.cell? ⟨b, o + k * 5 + 4, none⟩ = some (.int .i64 L[k].v) := ⟨(Below.cell (p := ⟨b, o + k * 5, none⟩) hs9 hb3).trans c0, (Below.cell (p := ⟨b, o + k * 5 + 1, none⟩) hs9 hb3).trans c1, (Below.cell (p := ⟨b, o + k * 5 + 2, none⟩) hs9 hb3).trans c2', (Below.cell (p := ⟨b, o + k * 5 + 3, none⟩) hs9 hb3).trans c3, (Below.cell (p := ⟨b, o + k * 5 + 4, none⟩) hs9 hb3).trans c4⟩
          obtain ⟨v', w', R, HO2, hb5⟩ := append_hits (B := w2.heap.size) (HO9.out) L[k] (by omega) (by omega)
          have R1 := Lib.hid R
          have HE : Hid (OwnH w2.heap.size w' v' (upTo n V (L.take (k + 1)))) := by rw [HP.out.2]; exact Lib.hid HO2
          have HB : Hid (Below w2.heap.size w2 w') := Lib.hid ((hs.trans (hs9.mono hsw)).trans hb5)
          clear R hb5 HO2
          go_wp2_with (first
            | (at_builtin; refine wpList_append_run rfl (.tmp 42) (.tmp 47) _ _ rfl rfl _ _ _ _ rfl rfl R1.out ?_)
            | fail)
          go_roundw
          case rel => exact ⟨k + 1, by omega, by go_num, by rw [HP.out.1], HE, HB.out⟩
          case measure => simp [intOf]; omega
      · have HP := Lib.hid (fun b hb => upTo_all (n := n) (V := V) (L := L) (k := k) (by omega) b hb)
        have hpl := upTo_le n V L k
        cases ha : ahead n (L.take k)
        · obtain ⟨v', w', R, HO2, hb5⟩ := append_hits (B := w2.heap.size) (HO.out) (⟨n, V⟩ : Hit) (by omega) (by omega)
          have R1 := Lib.hid R
          have HE : Hid (Hits w' v' (putIn n V L)) := by rw [(HP.out false ha).2 rfl]; exact Lib.hid (recs_own encH_len (by decide) HO2).1
          have HB : Hid (Below w.heap.size w w') := Lib.hid (low_trans hB2.out (hs.trans hb5))
          clear R hb5 HO2
          go_wp2_with (first
            | (at_builtin; refine wpList_append_run rfl (.tmp 51) (.tmp 55) _ _ rfl rfl _ _ _ _ rfl rfl R1.out ?_)
            | fail)
          go_ret
          exact ⟨_, rfl, by rw [E.out]; exact HE.out, HB.out⟩
        · have HE : Hid (Hits wr u7 (putIn n V L)) := by rw [(HP.out true ha).1 rfl]; exact Lib.hid (recs_own encH_len (by decide) HO.out).1
          have HB : Hid (Below w.heap.size w wr) := Lib.hid (low_trans hB2.out hs)
          go_wp2_with fail
          go_ret
          exact ⟨_, rfl, by rw [E.out]; exact HE.out, HB.out⟩
end Go.Proofs.Ytgnpnmdndlodlaa.Tr
/- Contract of the document's own answer for layer 11: which subnets hold an address. -/
namespace Go.Proofs.Ytgnpnmdndlodlaa.Tr
set_option maxRecDepth 100000
open Go.ChangeShapes Go.WideShapes Go.ChangeAt Go.RowKit
open Dec Words V4 V6 Ad Ci
set_option linter.unusedVariables false
def outer (l : List Hit) (a : Adr) (b : Nat) : List Hit := (List.range b).flatMap fun b : Nat => level l a (b : Int)
theorem outer_next (l : List Hit) (a : Adr) (b : Nat) : outer l a (b + 1) = outer l a b ++ level l a (b : Int) := by
  unfold outer; rw [List.range_succ, List.flatMap_append]; simp
theorem level_le (l : List Hit) (a : Adr) (b : Int) : (level l a b).length ≤ l.length := List.length_filter_le _ _
theorem level_take (l : List Hit) (a : Adr) (b : Int) (k : Nat) : (level (l.take k) a b).length ≤ l.length := Nat.le_trans (level_le _ a b) (by rw [List.length_take]; omega)
theorem outer_le (l : List Hit) (a : Adr) : ∀ b, (outer l a b).length ≤ b * l.length
  | 0 => by simp [outer]
  | b + 1 => by
    rw [outer_next, List.length_append, Nat.succ_mul]
    have := outer_le l a b
    have := level_le l a (b : Int)
    omega
set_option maxHeartbeats 4000000 in
theorem rcover_any (v : Value) (l : List Hit) (a : Adr) (w : World) (h : Hits w v l) (hl : l.length ≤ 7000) (hok : ∀ x ∈ l, x.ok) (ha : a.ok) :
    Calls Try.prog 17 #[v, .agg #[.bool a.v6, .int .u64 a.hi, .int .u64 a.lo]] w fun e w' => ∃ u, e = .returned u ∧ Hits w' u (cover l a) ∧ Below w.heap.size w w' := by
  have KB := Lib.hid (fun W => rbits_any a W)
  have hbb := bitsA_two a
  have hok' := Lib.hid hok
  obtain ⟨A, c, rfl, hc, _, hcell⟩ := h
  have HC := Lib.hid hcell
  have hb0 : Hid (Below w.heap.size w (w.alloc (.cells #[.bool a.v6, .int .u64 a.hi, .int .u64 a.lo] 25))) := Lib.hid ((Below.refl _ _).alloc (Nat.le_refl _) _)
  clear hcell hok
  go_enter Try.func17, Try.ntmps17
  go_wp2_with fail
  go_loopw [5, 6] (fun out i wr => ∃ m : Nat, m ≤ bitsA a + 1 ∧ i = .int .i64 m ∧ Hid (OwnH (w.heap.size + 1) wr out (outer l a m)) ∧ Stays (w.alloc (.cells #[.bool a.v6, .int .u64 a.hi, .int .u64 a.lo] 25)) wr) (fun _ i _ => bitsA a + 1 - (intOf i).toNat)
  case atStart => exact ⟨0, Nat.zero_le _, rfl, Lib.hid (own_empty _ _ (by simp)), (Below.refl _ _).alloc (Nat.le_refl _) _⟩
  case round =>
    obtain ⟨m, hm, rfl, HO, hs⟩ := hrel
    obtain ⟨wq, hwq⟩ : ∃ W, W = wr := ⟨_, rfl⟩
    subst hwq
    obtain ⟨d0, d1, d2, _⟩ := box_left hs
    by_cases hlm : m ≤ bitsA a
    · go_wp2_with fail
      (with_reducible refine (KB.out _).mono ?_)
      rintro e w5 ⟨rfl, hb5⟩
      have hs5 : Hid (Stays (w.alloc (.cells #[.bool a.v6, .int .u64 a.hi, .int .u64 a.lo] 25)) w5) := Lib.hid (low_trans hs hb5)
      have HO5 : Hid (OwnH (w.heap.size + 1) w5 u5 (outer l a m)) := Lib.hid (HO.out.kept (row := none) ⟨hb5.os, hb5.tape, hb5.output, hb5.size, fun j hj _ => hb5.block j hj⟩ (by cases u5.ownBlock <;> simp))
      clear d0 d1 d2 hs hb5 HO
      go_wp2_with fail
      go_loopw [5, 7] (fun out i wr => ∃ k : Nat, k ≤ l.length ∧ i = .int .i64 k ∧ Hid (OwnH (w.heap.size + 1) wr out (outer l a m ++ level (l.take k) a (m : Int))) ∧ Stays (w.alloc (.cells #[.bool a.v6, .int .u64 a.hi, .int .u64 a.lo] 25)) wr) (fun _ i _ => l.length - (intOf i).toNat)
      case atStart => exact ⟨0, Nat.zero_le _, rfl, Lib.hid (by have := HO5.out; rw [List.take_zero, show level [] a (m : Int) = [] from rfl, List.append_nil]; exact this), hs5.out⟩
      case round =>
        obtain ⟨k, hk, rfl, HO, hs⟩ := hrel
        have hsw : w.heap.size + 1 ≤ wr.heap.size := by have := hs.size; simpa using this
        have hb4 : w.heap.size < wr.heap.size := by omega
        obtain ⟨d0, d1, d2, _⟩ := box_left hs
        by_cases hlt : k < l.length
        · obtain ⟨b, o, rfl, hb, hcc⟩ := HC.out (by omega)
          have hb3 : b < wr.heap.size := by omega
          obtain ⟨c0, c1, c2, c3, c4⟩ := hit_cells (fun i h j u hu => ((hb0.out.trans (hs.mono (by simp))).cell (p := ⟨b, o + i * 5 + j, none⟩) hb).trans (hcc i h j u hu)) hlt
          clear hcc
          have hxo : (l[k]).n.ok := (hok'.out (l[k]) (List.getElem_mem hlt)).1
          have KH : Hid (∀ W, Stays wr W → Calls Try.prog 31 #[.agg #[.bool l[k].n.a.v6, .int .u64 l[k].n.a.hi, .int .u64 l[k].n.a.lo, .int .i64 l[k].n.n], .agg #[.bool a.v6, .int .u64 a.hi, .int .u64 a.lo]] W fun e w' => e = .returned (.bool (hasN l[k].n a)) ∧ Stays wr w') := Lib.hid (fun W hs => (rhasN_any l[k].n a W hxo ha).mono fun e w' ⟨he, hb⟩ => ⟨he, low_trans hs hb⟩)
          have HL := Lib.hid (level_snoc l a (m : Int) k hlt)
          have hpl := level_take l a (m : Int) k
          have hol : (outer l a m).length ≤ 910000 := Nat.le_trans (outer_le l a m) (Nat.le_trans (Nat.mul_le_mul (show m ≤ 130 by omega) hl) (by decide))
          cases hbit : (l[k].n.n == (m : Int))
          · have HE0 : Hid (level (l.take (k + 1)) a (m : Int) = level (l.take k) a (m : Int)) := Lib.hid (by rw [HL.out, hbit]; rfl)
            go_wp2_with fail
            have hne : Nonempty (Cls (Stays wr)) := ⟨⟨wr, Below.refl _ _⟩⟩
            have f0 : ∀ q : Cls (Stays wr), q.w.cell? ⟨b, o + k * 5, none⟩ = some (.bool l[k].n.a.v6) := fun q => (Below.cell (p := ⟨b, o + k * 5, none⟩) q.h hb3).trans c0
            have f1 : ∀ q : Cls (Stays wr), q.w.cell? ⟨b, o + k * 5 + 1, none⟩ = some (.int .u64 l[k].n.a.hi) := fun q => (Below.cell (p := ⟨b, o + k * 5 + 1, none⟩) q.h hb3).trans c1
            have f2 : ∀ q : Cls (Stays wr), q.w.cell? ⟨b, o + k * 5 + 2, none⟩ = some (.int .u64 l[k].n.a.lo) := fun q => (Below.cell (p := ⟨b, o + k * 5 + 2, none⟩) q.h hb3).trans c2
            have f3 : ∀ q : Cls (Stays wr), q.w.cell? ⟨b, o + k * 5 + 3, none⟩ = some (.int .i64 l[k].n.n) := fun q => (Below.cell (p := ⟨b, o + k * 5 + 3, none⟩) q.h hb3).trans c3
            have f4 : ∀ q : Cls (Stays wr), q.w.cell? ⟨b, o + k * 5 + 4, none⟩ = some (.int .i64 l[k].v) := fun q => (Below.cell (p := ⟨b, o + k * 5 + 4, none⟩) q.h hb3).trans c4
            have f5 : ∀ q : Cls (Stays wr), q.w.cell? ⟨w.heap.size, 0, none⟩ = some (.bool a.v6) := fun q => (Below.cell (p := ⟨w.heap.size, 0, none⟩) q.h hb4).trans d0
            have f6 : ∀ q : Cls (Stays wr), q.w.cell? ⟨w.heap.size, 1, none⟩ = some (.int .u64 a.hi) := fun q => (Below.cell (p := ⟨w.heap.size, 1, none⟩) q.h hb4).trans d1
            have f7 : ∀ q : Cls (Stays wr), q.w.cell? ⟨w.heap.size, 2, none⟩ = some (.int .u64 a.lo) := fun q => (Below.cell (p := ⟨w.heap.size, 2, none⟩) q.h hb4).trans d2
            refine Cls.region (Stays wr) (by kernel_rfl) (by kernel_rfl) (low_drewN (Below.refl _ _) 1) ?_
            repeat (go_big_quiet_step (first | fail))
            refine wpQuiet_nil ?_
            intro n9
            have hs9 := n9.h
            generalize n9.w = w9 at hs9 ⊢
            clear hne n9 f0 f1 f2 f3 f4 f5 f6 f7
            have HO9 : Hid (OwnH (w.heap.size + 1) w9 u5 (outer l a m ++ level (l.take k) a (m : Int))) := Lib.hid (HO.out.kept (row := none) ⟨hs9.os, hs9.tape, hs9.output, hs9.size, fun j hj _ => hs9.block j hj⟩ (by cases u5.ownBlock <;> simp))
            have hsz9 := hs9.size
            have HE : Hid (OwnH (w.heap.size + 1) w9 u5 (outer l a m ++ level (l.take (k + 1)) a (m : Int))) := Lib.hid (by rw [HE0.out]; exact HO9.out)
            have HB : Hid (Stays (w.alloc (.cells #[.bool a.v6, .int .u64 a.hi, .int .u64 a.lo] 25)) w9) := Lib.hid (low_trans hs hs9)
            go_wp2_with fail
            go_roundw
            case rel => exact ⟨k + 1, by omega, by go_num, HE, HB.out⟩
            case measure => simp [intOf]; omega
          · cases hhas : hasN l[k].n a
            · have HE0 : Hid (level (l.take (k + 1)) a (m : Int) = level (l.take k) a (m : Int)) := Lib.hid (by rw [HL.out, hbit, hhas]; rfl)
              rw [hhas] at KH
              go_wp2_with fail
              have hne : Nonempty (Cls (Stays wr)) := ⟨⟨wr, Below.refl _ _⟩⟩
              have f0 : ∀ q : Cls (Stays wr), q.w.cell? ⟨b, o + k * 5, none⟩ = some (.bool l[k].n.a.v6) := fun q => (Below.cell (p := ⟨b, o + k * 5, none⟩) q.h hb3).trans c0
              have f1 : ∀ q : Cls (Stays wr), q.w.cell? ⟨b, o + k * 5 + 1, none⟩ = some (.int .u64 l[k].n.a.hi) := fun q => (Below.cell (p := ⟨b, o + k * 5 + 1, none⟩) q.h hb3).trans c1
              have f2 : ∀ q : Cls (Stays wr), q.w.cell? ⟨b, o + k * 5 + 2, none⟩ = some (.int .u64 l[k].n.a.lo) := fun q => (Below.cell (p := ⟨b, o + k * 5 + 2, none⟩) q.h hb3).trans c2
              have f3 : ∀ q : Cls (Stays wr), q.w.cell? ⟨b, o + k * 5 + 3, none⟩ = some (.int .i64 l[k].n.n) := fun q => (Below.cell (p := ⟨b, o + k * 5 + 3, none⟩) q.h hb3).trans c3
              have f4 : ∀ q : Cls (Stays wr), q.w.cell? ⟨b, o + k * 5 + 4, none⟩ = some (.int .i64 l[k].v) := fun q => (Below.cell (p := ⟨b, o + k * 5 + 4, none⟩) q.h hb3).trans c4
              have f5 : ∀ q : Cls (Stays wr), q.w.cell? ⟨w.heap.size, 0, none⟩ = some (.bool a.v6) := fun q => (Below.cell (p := ⟨w.heap.size, 0, none⟩) q.h hb4).trans d0
              have f6 : ∀ q : Cls (Stays wr), q.w.cell? ⟨w.heap.size, 1, none⟩ = some (.int .u64 a.hi) := fun q => (Below.cell (p := ⟨w.heap.size, 1, none⟩) q.h hb4).trans d1
              have f7 : ∀ q : Cls (Stays wr), q.w.cell? ⟨w.heap.size, 2, none⟩ = some (.int .u64 a.lo) := fun q => (Below.cell (p := ⟨w.heap.size, 2, none⟩) q.h hb4).trans d2
              refine Cls.region (Stays wr) (by kernel_rfl) (by kernel_rfl) (low_drewN (Below.refl _ _) 1) ?_
              repeat (go_big_quiet_step (first | fail | (with_reducible exact Cls.call (KH.out _ (Cls.h _)))))
              refine wpQuiet_nil ?_
              intro n9
              have hs9 := n9.h
              generalize n9.w = w9 at hs9 ⊢
              clear hne n9 f0 f1 f2 f3 f4 f5 f6 f7
              have HO9 : Hid (OwnH (w.heap.size + 1) w9 u5 (outer l a m ++ level (l.take k) a (m : Int))) := Lib.hid (HO.out.kept (row := none) ⟨hs9.os, hs9.tape, hs9.output, hs9.size, fun j hj _ => hs9.block j hj⟩ (by cases u5.ownBlock <;> simp))
              have hsz9 := hs9.size
              have HE : Hid (OwnH (w.heap.size + 1) w9 u5 (outer l a m ++ level (l.take (k + 1)) a (m : Int))) := Lib.hid (by rw [HE0.out]; exact HO9.out)
              have HB : Hid (Stays (w.alloc (.cells #[.bool a.v6, .int .u64 a.hi, .int .u64 a.lo] 25)) w9) := Lib.hid (low_trans hs hs9)
              go_wp2_with fail
              go_roundw
              case rel => exact ⟨k + 1, by omega, by go_num, HE, HB.out⟩
              case measure => simp [intOf]; omega
            · have HE0 : Hid (level (l.take (k + 1)) a (m : Int) = level (l.take k) a (m : Int) ++ [l[k]]) := Lib.hid (by rw [HL.out, hbit, hhas]; rfl)
              rw [hhas] at KH
              go_wp2_with fail
              have hne : Nonempty (Cls (Stays wr)) := ⟨⟨wr, Below.refl _ _⟩⟩
              have f0 : ∀ q : Cls (Stays wr), q.w.cell? ⟨b, o + k * 5, none⟩ = some (.bool l[k].n.a.v6) := fun q => (Below.cell (p := ⟨b, o + k * 5, none⟩) q.h hb3).trans c0
              have f1 : ∀ q : Cls (Stays wr), q.w.cell? ⟨b, o + k * 5 + 1, none⟩ = some (.int .u64 l[k].n.a.hi) := fun q => (Below.cell (p := ⟨b, o + k * 5 + 1, none⟩) q.h hb3).trans c1
              have f2 : ∀ q : Cls (Stays wr), q.w.cell? ⟨b, o + k * 5 + 2, none⟩ = some (.int .u64 l[k].n.a.lo) := fun q => (Below.cell (p := ⟨b, o + k * 5 + 2, none⟩) q.h hb3).trans c2
              have f3 : ∀ q : Cls (Stays wr), q.w.cell? ⟨b, o + k * 5 + 3, none⟩ = some (.int .i64 l[k].n.n) := fun q => (Below.cell (p := ⟨b, o + k * 5 + 3, none⟩) q.h hb3).trans c3
              have f4 : ∀ q : Cls (Stays wr), q.w.cell? ⟨b, o + k * 5 + 4, none⟩ = some (.int .i64 l[k].v) := fun q => (Below.cell (p := ⟨b, o + k * 5 + 4, none⟩) q.h hb3).trans c4
              have f5 : ∀ q : Cls (Stays wr), q.w.cell? ⟨w.heap.size, 0, none⟩ = some (.bool a.v6) := fun q => (Below.cell (p := ⟨w.heap.size, 0, none⟩) q.h hb4).trans d0
              have f6 : ∀ q : Cls (Stays wr), q.w.cell? ⟨w.heap.size, 1, none⟩ = some (.int .u64 a.hi) := fun q => (Below.cell (p := ⟨w.heap.size, 1, none⟩) q.h hb4).trans d1
              have f7 : ∀ q : Cls (Stays wr), q.w.cell? ⟨w.heap.size, 2, none⟩ = some (.int .u64 a.lo) := fun q => (Below.cell (p := ⟨w.heap.size, 2, none⟩) q.h hb4).trans d2
              refine Cls.region (Stays wr) (by kernel_rfl) (by kernel_rfl) (low_drewN (Below.refl _ _) 1) ?_
              repeat (go_big_quiet_step (first | fail | (with_reducible exact Cls.call (KH.out _ (Cls.h _)))))
              refine wpQuiet_nil ?_
              intro n9
              have hs9 := n9.h
              generalize n9.w = w9 at hs9 ⊢
              clear hne n9 f0 f1 f2 f3 f4 f5 f6 f7
              have HO9 : Hid (OwnH (w.heap.size + 1) w9 u5 (outer l a m ++ level (l.take k) a (m : Int))) := Lib.hid (HO.out.kept (row := none) ⟨hs9.os, hs9.tape, hs9.output, hs9.size, fun j hj _ => hs9.block j hj⟩ (by cases u5.ownBlock <;> simp))
              have hsz9 := hs9.size
              obtain ⟨g0, g1, g2, g3, g4⟩ : w9.cell? ⟨b, o + k * 5, none⟩ = some (.bool l[k].n.a.v6) ∧ w9.cell? ⟨b, o + k * 5 + 1, none⟩ = some (.int .u64 l[k].n.a.hi) ∧ w9.cell? ⟨b, o + k * 5 + 2, none⟩ = some (.int .u64 l[k].n.a.lo) ∧ w9.cell? ⟨b, o + k * 5 + 3, none⟩ = some (.int .i64 l[k].n.n) ∧ w9.cell? ⟨b, o + k * 5 + 4, none⟩ = some (.int .i64 l[k].v) := ⟨(Below.cell (p := ⟨b, o + k * 5, none⟩) hs9 hb3).trans c0, (Below.cell (p := ⟨b, o + k * 5 + 1, none⟩) hs9 hb3).trans c1, (Below.cell (p := ⟨b, o + k * 5 + 2, none⟩) hs9 hb3).trans c2, (Below.cell (p := ⟨b, o + k * 5 + 3, none⟩) hs9 hb3).trans c3, (Below.cell (p := ⟨b, o + k * 5 + 4, none⟩) hs9 hb3).trans c4⟩
              obtain ⟨v', w', R, HO2, hb6⟩ := append_hits (B := w.heap.size + 1) (HO9.out) l[k] (by rw [List.length_append]; omega) (by omega)
              have R1 := Lib.hid R
              have HE : Hid (OwnH (w.heap.size + 1) w' v' (outer l a m ++ level (l.take (k + 1)) a (m : Int))) := Lib.hid (by rw [HE0.out, ← List.append_assoc]; exact HO2)
              have HB : Hid (Stays (w.alloc (.cells #[.bool a.v6, .int .u64 a.hi, .int .u64 a.lo] 25)) w') := Lib.hid ((low_trans hs hs9).trans (hb6.mono (by simp)))
              clear R hb6 HO2
              go_wp2_with (first
                | (at_builtin; refine wpList_append_run rfl (.tmp 38) (.tmp 43) _ _ rfl rfl _ _ _ _ rfl rfl R1.out ?_)
                | fail)
              go_roundw
              case rel => exact ⟨k + 1, by omega, by go_num, HE, HB.out⟩
              case measure => simp [intOf]; omega
        · have HE : Hid (OwnH (w.heap.size + 1) wr u5 (outer l a (m + 1))) := Lib.hid (by
            have := HO.out
            rw [List.take_of_length_le (by omega)] at this
            rw [outer_next]; exact this)
          go_wp2_with fail
          go_roundw
          case rel => exact ⟨m + 1, by omega, by go_num, HE, hs⟩
          case measure => simp [intOf]; omega
    · have HE : Hid (Hits wq u5 (cover l a)) := by
        have := HO.out
        rw [show m = bitsA a + 1 by omega] at this
        exact Lib.hid (recs_own encH_len (by decide) this).1
      have HB : Hid (Stays (w.alloc (.cells #[.bool a.v6, .int .u64 a.hi, .int .u64 a.lo] 25)) wq) := Lib.hid hs
      go_wp2_with fail
      (with_reducible refine (KB.out _).mono ?_)
      rintro e w5 ⟨rfl, hb5⟩
      have HE2 : Hid (Hits w5 u5 (cover l a)) := Lib.hid (HE.out.below hb5)
      have HB2 : Hid (Below w.heap.size w w5) := Lib.hid (low_trans (hb0.out.trans (HB.out.mono (by simp))) hb5)
      clear hb5 d0 d1 d2
      go_wp2_with fail
      go_ret
      exact ⟨_, rfl, HE2.out, HB2.out⟩
end Go.Proofs.Ytgnpnmdndlodlaa.Tr
