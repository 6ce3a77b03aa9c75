/- Subnets in lists, in plain words: whether one holds an address, bit by bit; their order; what is put into a list, taken out, told of it. -/
import Derived.Test.YtgnjbbohphoojaaMath
import Derived.Test.YtgnjbbohphoojaaRef09All
import Derived.Test.YtgnjbbohphoojaaRef07All
import Derived.Test.YtgnjbbohphoojaaKit
import Derived.Test.YtgnjbbohphoojaaCidrAll
import Derived.Test.YtgnjbbohphoojaaRef06All
import Derived.Deep.RegionHeld3
import Derived.Test.YtgnjbbohphoojaaBlk
namespace Go.Proofs.Ytgnjbbohphoojaa.Ci
set_option maxRecDepth 100000
open Dec Words V4 V6 Ad
/-- The first k bits are an address's own, the others none. -/
theorem first_bit {a : Adr} {k j : Nat} (hk : k ≤ bitsA a) (hj : j < bitsA a) : bitN (firstA a k) j = if j < k then bitN a j else 0 := by
  obtain ⟨v, hi, lo⟩ := a
  cases v
  · have hb : bitsA ⟨false, hi, lo⟩ = 32 := rfl
    rw [hb] at hk hj
    show keep lo (32 - k) / 2 ^ (31 - j) % 2 = if j < k then lo / 2 ^ (31 - j) % 2 else 0
    split
    · rw [keep_div (by omega)]
    · exact keep_odd (by omega)
  · have hb : bitsA ⟨true, hi, lo⟩ = 128 := rfl
    rw [hb] at hk hj
    show (if j < 64 then keep hi (128 - k - 64) / 2 ^ (63 - j) % 2 else keep lo (128 - k) / 2 ^ (127 - j) % 2) = if j < k then (if j < 64 then hi / 2 ^ (63 - j) % 2 else lo / 2 ^ (127 - j) % 2) else 0
    split
    · split
      · rw [keep_div (by omega)]
      · exact keep_odd (by omega)
    · split
      · rw [keep_div (by omega)]
      · exact keep_odd (by omega)
theorem right_made {n : Net} (h : rightN n = true) : rightA n.a = true ∧ 0 ≤ n.n ∧ n.n ≤ (bitsA n.a : Int) := by
  obtain ⟨h1, _⟩ := (rightN_iff n).1 h
  exact (makeB_iff _ _).1 h1
theorem bitsA_v6 {a b : Adr} (h : a.v6 = b.v6) : bitsA a = bitsA b := by unfold bitsA; rw [h]
theorem has_parts {n : Net} {a : Adr} (h : hasN n a = true) : rightN n = true ∧ rightA a = true ∧ n.a.v6 = a.v6 := by
  unfold hasN at h
  rw [Bool.and_eq_true, sameN_iff] at h
  obtain ⟨h1, h2⟩ := h
  obtain ⟨g1, g2, g3⟩ := (makeB_iff _ _).1 h1
  have hm := make_right h1
  rw [h2] at hm
  refine ⟨hm, g1, ?_⟩
  rw [← h2]
  unfold makeN
  rw [if_pos h1]; rfl
theorem has_first {n : Net} {a : Adr} (rn : rightN n = true) (ra : rightA a = true) (hv : n.a.v6 = a.v6) : hasN n a = true ↔ firstA a n.n.toNat = n.a := by
  obtain ⟨g1, g2, g3⟩ := right_made rn
  rw [bitsA_v6 hv] at g3
  have hm : makeB a n.n = true := (makeB_iff _ _).2 ⟨ra, g2, g3⟩
  unfold hasN makeN
  rw [hm, Bool.true_and, if_pos rfl, sameN_iff]
  exact ⟨fun h => congrArg Net.a h, fun h => by rw [h]⟩
/-- Bit by bit. -/
theorem has_bits {n : Net} {a : Adr} (hn : n.ok) (ha : a.ok) (rn : rightN n = true) (ra : rightA a = true) (hv : n.a.v6 = a.v6) : hasN n a = true ↔ ∀ j, j < n.n.toNat → bitN n.a j = bitN a j := by
  rw [has_first rn ra hv]
  obtain ⟨g1, g2, g3⟩ := right_made rn
  have hb := bitsA_v6 hv
  have hk : n.n.toNat ≤ bitsA a := by omega
  constructor
  · intro h j hj
    rw [← h, first_bit hk (by omega), if_pos hj]
  · intro h
    refine bits_same (firstA_ok ha _) hn.1 (first_right ra _ hk) g1 (by rw [bitsA_v6 (a := firstA a n.n.toNat) (b := a) rfl, hb]) fun i hi => ?_
    rw [bitsA_v6 (a := firstA a n.n.toNat) (b := a) rfl] at hi
    rw [first_bit hk hi]
    split
    · rename_i hlt; exact (h i hlt).symm
    · have hm : makeB n.a n.n = true := (makeB_iff _ _).2 ⟨g1, g2, g3⟩
      exact ((right_bits hn hm).1 rn i (by omega) (by omega)).symm
/-- The order of subnets: by address, then by bits. -/
def cmpN (m n : Net) : Int := if cmpA m.a n.a = 0 then En.cmpI m.n n.n else cmpA m.a n.a
theorem cmpN_E (m n : Net) : cmpN m n = En.cmpE ⟨m.a, m.n⟩ ⟨n.a, n.n⟩ := rfl
theorem cmpN_zero (m n : Net) : cmpN m n = 0 ↔ m = n := by
  rw [cmpN_E, En.cmpE_zero]
  cases m; cases n; simp
theorem cmpN_flip (m n : Net) : cmpN m n = -cmpN n m := by rw [cmpN_E, cmpN_E]; exact En.cmpE_flip _ _
theorem cmpN_le {a b c : Net} (h1 : cmpN a b ≤ 0) (h2 : cmpN b c ≤ 0) : cmpN a c ≤ 0 := by rw [cmpN_E] at *; exact En.cmpE_le h1 h2
theorem cmpN_less {a b c : Net} (h1 : cmpN a b < 0) (h2 : cmpN b c < 0) : cmpN a c < 0 := by
  have h := cmpN_le (a := a) (b := b) (c := c) (by omega) (by omega)
  by_cases e : cmpN a c = 0
  · obtain rfl := (cmpN_zero a c).1 e
    have := cmpN_flip a b
    omega
  · omega
end Go.Proofs.Ytgnjbbohphoojaa.Ci
namespace Go.Proofs.Ytgnjbbohphoojaa.Tr
set_option maxRecDepth 100000
open Ad Ci
/-- A subnet, and its number. -/
structure Hit where
  n : Net
  v : Int
def Hit.ok (h : Hit) : Prop := h.n.ok ∧ -9223372036854775808 ≤ h.v ∧ h.v ≤ 9223372036854775807
def cut (l : List Hit) (n : Net) : List Hit := l.filter fun h => !sameN h.n n
def putIn (n : Net) (v : Int) : List Hit → List Hit
  | [] => [⟨n, v⟩]
  | x :: xs => if cmpN n x.n < 0 then ⟨n, v⟩ :: x :: xs else x :: putIn n v xs
def withH (l : List Hit) (n : Net) (v : Int) : List Hit := if rightN n then putIn n v (cut l n) else l
def found (l : List Hit) (n : Net) : Option Hit := l.find? fun h => sameN h.n n
def getV (l : List Hit) (n : Net) : Int := match found l n with | some h => h.v | none => 0
def getB (l : List Hit) (n : Net) : Bool := (found l n).isSome
def level (l : List Hit) (a : Adr) (b : Int) : List Hit := l.filter fun h => h.n.n == b && hasN h.n a
def cover (l : List Hit) (a : Adr) : List Hit := (List.range (bitsA a + 1)).flatMap fun b : Nat => level l a (b : Int)
/-! The loops, step by step. -/
theorem cut_snoc (l : List Hit) (n : Net) (k : Nat) (h : k < l.length) : cut (l.take (k + 1)) n = if sameN l[k].n n then cut (l.take k) n else cut (l.take k) n ++ [l[k]] := by
  unfold cut
  rw [List.take_succ_eq_append_getElem h, List.filter_append]
  cases hs : sameN l[k].n n
  · rw [if_neg (by simp)]; simp [hs]
  · rw [if_pos rfl]; simp [hs]
theorem level_snoc (l : List Hit) (a : Adr) (b : Int) (k : Nat) (h : k < l.length) : level (l.take (k + 1)) a b = if l[k].n.n == b && hasN l[k].n a then level (l.take k) a b ++ [l[k]] else level (l.take k) a b := by
  unfold level
  rw [List.take_succ_eq_append_getElem h, List.filter_append]
  cases hs : (l[k].n.n == b && hasN l[k].n a)
  · rw [if_neg (by simp)]; simp [hs]
  · rw [if_pos rfl]; simp [hs]
def ahead (n : Net) (l : List Hit) : Bool := l.any fun x => decide (cmpN n x.n < 0)
theorem ahead_snoc (n : Net) (l : List Hit) (k : Nat) (h : k < l.length) : ahead n (l.take (k + 1)) = (ahead n (l.take k) || decide (cmpN n l[k].n < 0)) := by
  unfold ahead
  rw [List.take_succ_eq_append_getElem h, List.any_append]; simp
theorem putIn_none {n : Net} (v : Int) : ∀ {l : List Hit}, ahead n l = false → putIn n v l = l ++ [⟨n, v⟩]
  | [], _ => rfl
  | x :: l, h => by
    unfold ahead at h
    rw [List.any_cons, Bool.or_eq_false_iff, decide_eq_false_iff_not] at h
    rw [putIn, if_neg h.1, putIn_none v (l := l) h.2]; rfl
theorem putIn_more {n : Net} (v : Int) (y : Hit) : ∀ {l : List Hit}, ahead n l = true → putIn n v (l ++ [y]) = putIn n v l ++ [y]
  | [], h => by simp [ahead] at h
  | x :: l, h => by
    rw [List.cons_append, putIn, putIn]
    split
    · rfl
    · rename_i hx
      unfold ahead at h
      rw [List.any_cons, Bool.or_eq_true, decide_eq_true_eq] at h
      rw [putIn_more v y (l := l) (h.resolve_left hx)]; rfl
theorem putIn_here {n : Net} (v : Int) {y : Hit} {l : List Hit} (h : ahead n l = false) (hy : cmpN n y.n < 0) : putIn n v (l ++ [y]) = l ++ [⟨n, v⟩] ++ [y] := by
  induction l with
  | nil => rw [List.nil_append, putIn, if_pos hy]; rfl
  | cons x l ih =>
    unfold ahead at h
    rw [List.any_cons, Bool.or_eq_false_iff, decide_eq_false_iff_not] at h
    rw [List.cons_append, putIn, if_neg h.1, ih h.2]; rfl
end Go.Proofs.Ytgnjbbohphoojaa.Tr
/- Contracts: the order of subnets, and whether one holds an address, by the document. -/
namespace Go.Proofs.Ytgnjbbohphoojaa.Ci
set_option maxRecDepth 100000
open Go.ChangeShapes Go.WideShapes Go.ChangeAt Go.RowKit
open Dec Words V4 V6 Ad
set_option linter.unusedVariables false
abbrev SNN (m n : Net) (w : World) (w' : World) : Prop := w'.cell? ⟨w.heap.size, 0, none⟩ = some (.bool m.a.v6) ∧ w'.cell? ⟨w.heap.size, 1, none⟩ = some (.int .u64 m.a.hi) ∧ w'.cell? ⟨w.heap.size, 2, none⟩ = some (.int .u64 m.a.lo) ∧ w'.cell? ⟨w.heap.size, 3, none⟩ = some (.int .i64 m.n) ∧ w'.cell? ⟨w.heap.size + 1, 0, none⟩ = some (.bool n.a.v6) ∧ w'.cell? ⟨w.heap.size + 1, 1, none⟩ = some (.int .u64 n.a.hi) ∧ w'.cell? ⟨w.heap.size + 1, 2, none⟩ = some (.int .u64 n.a.lo) ∧ w'.cell? ⟨w.heap.size + 1, 3, none⟩ = some (.int .i64 n.n) ∧ Stays ((w.alloc (.cells #[.bool m.a.v6, .int .u64 m.a.hi, .int .u64 m.a.lo, .int .i64 m.n] 43)).alloc (.cells #[.bool n.a.v6, .int .u64 n.a.hi, .int .u64 n.a.lo, .int .i64 n.n] 43)) w'
theorem SNN.of {m n : Net} {w w' : World} (h : Stays ((w.alloc (.cells #[.bool m.a.v6, .int .u64 m.a.hi, .int .u64 m.a.lo, .int .i64 m.n] 43)).alloc (.cells #[.bool n.a.v6, .int .u64 n.a.hi, .int .u64 n.a.lo, .int .i64 n.n] 43)) w') : SNN m n w w' := ⟨cells_left h (by simp [go_sem]), cells_left h (by simp [go_sem]), cells_left h (by simp [go_sem]), cells_left h (by simp [go_sem]), cells_left h (by simp [go_sem]), cells_left h (by simp [go_sem]), cells_left h (by simp [go_sem]), cells_left h (by simp [go_sem]), h⟩
theorem SNN.on {m n : Net} {w w1 w2 : World} (h : SNN m n w w1) (k : Below w1.heap.size w1 w2) : SNN m n w w2 := SNN.of (low_trans h.2.2.2.2.2.2.2.2 k)
theorem SNN.low {m n : Net} {w w1 : World} (h : SNN m n w w1) : Below w.heap.size w w1 := (((Below.refl _ _).alloc (Nat.le_refl _) _).alloc (by simp) _).trans (h.2.2.2.2.2.2.2.2.mono (by simp; omega))
abbrev SNA (n : Net) (a : Adr) (w : World) (w' : World) : Prop := w'.cell? ⟨w.heap.size, 0, none⟩ = some (.bool n.a.v6) ∧ w'.cell? ⟨w.heap.size, 1, none⟩ = some (.int .u64 n.a.hi) ∧ w'.cell? ⟨w.heap.size, 2, none⟩ = some (.int .u64 n.a.lo) ∧ w'.cell? ⟨w.heap.size, 3, none⟩ = some (.int .i64 n.n) ∧ w'.cell? ⟨w.heap.size + 1, 0, none⟩ = some (.bool a.v6) ∧ w'.cell? ⟨w.heap.size + 1, 1, none⟩ = some (.int .u64 a.hi) ∧ w'.cell? ⟨w.heap.size + 1, 2, none⟩ = some (.int .u64 a.lo) ∧ Stays ((w.alloc (.cells #[.bool n.a.v6, .int .u64 n.a.hi, .int .u64 n.a.lo, .int .i64 n.n] 43)).alloc (.cells #[.bool a.v6, .int .u64 a.hi, .int .u64 a.lo] 31)) w'
theorem SNA.of {n : Net} {a : Adr} {w w' : World} (h : Stays ((w.alloc (.cells #[.bool n.a.v6, .int .u64 n.a.hi, .int .u64 n.a.lo, .int .i64 n.n] 43)).alloc (.cells #[.bool a.v6, .int .u64 a.hi, .int .u64 a.lo] 31)) w') : SNA n a w w' := ⟨cells_left h (by simp [go_sem]), cells_left h (by simp [go_sem]), cells_left h (by simp [go_sem]), cells_left h (by simp [go_sem]), cells_left h (by simp [go_sem]), cells_left h (by simp [go_sem]), cells_left h (by simp [go_sem]), h⟩
theorem SNA.on {n : Net} {a : Adr} {w w1 w2 : World} (h : SNA n a w w1) (k : Below w1.heap.size w1 w2) : SNA n a w w2 := SNA.of (low_trans h.2.2.2.2.2.2.2 k)
theorem SNA.low {n : Net} {a : Adr} {w w1 : World} (h : SNA n a w w1) : Below w.heap.size w w1 := (((Below.refl _ _).alloc (Nat.le_refl _) _).alloc (by simp) _).trans (h.2.2.2.2.2.2.2.mono (by simp; omega))
set_option maxHeartbeats 8000000 in
theorem rhasN_any (n : Net) (a : Adr) (w : World) (hn : n.ok) (ha : a.ok) :
    Calls Try.prog 21 #[.agg #[.bool n.a.v6, .int .u64 n.a.hi, .int .u64 n.a.lo, .int .i64 n.n], .agg #[.bool a.v6, .int .u64 a.hi, .int .u64 a.lo]] w fun e w' => e = .returned (.bool (hasN n a)) ∧ Below w.heap.size w w' := by
  have K1 : Hid (∀ W, SNA n a w W → Calls Try.prog 32 #[.agg #[.bool n.a.v6, .int .u64 n.a.hi, .int .u64 n.a.lo, .int .i64 n.n]] W fun e w' => e = .returned (.bool (rightN n)) ∧ SNA n a w w') := Lib.hid fun W h => (rrightN_any n W hn).mono fun e w' ⟨he, hb⟩ => ⟨he, h.on hb⟩
  have K2 : Hid (∀ W, SNA n a w W → Calls Try.prog 19 #[.agg #[.bool a.v6, .int .u64 a.hi, .int .u64 a.lo]] W fun e w' => e = .returned (.bool (rightA a)) ∧ SNA n a w w') := Lib.hid fun W h => (rright_any a W ha).mono fun e w' ⟨he, hb⟩ => ⟨he, h.on hb⟩
  have hk0 : SNA n a w ((w.alloc (.cells #[.bool n.a.v6, .int .u64 n.a.hi, .int .u64 n.a.lo, .int .i64 n.n] 43)).alloc (.cells #[.bool a.v6, .int .u64 a.hi, .int .u64 a.lo] 31)) := SNA.of (Below.refl _ _)
  have HP : Hid (hasN n a = true → rightN n = true ∧ rightA a = true ∧ n.a.v6 = a.v6) := Lib.hid has_parts
  cases hrn : rightN n
  · have E : Hid (hasN n a = false) := Lib.hid (by rw [← Bool.not_eq_true]; intro h; have := (HP.out h).1; rw [hrn] at this; cases this)
    rw [hrn] at K1
    clear hrn
    obtain ⟨c0, c1, c2, c3, c4, c5, c6, hs_c⟩ := id hk0
    go_enter Try.func21, Try.ntmps21
    go_wp2_with fail
    (with_reducible refine (K1.out _ hk0).mono ?_)
    rintro e w1 ⟨rfl, hk1⟩
    go_wp2_with fail
    go_ret
    exact ⟨ret_b E.out.symm, SNA.low hk1⟩
  rw [hrn] at K1
  cases hra : rightA a
  · have E : Hid (hasN n a = false) := Lib.hid (by rw [← Bool.not_eq_true]; intro h; have := (HP.out h).2.1; rw [hra] at this; cases this)
    rw [hra] at K2
    clear hrn hra
    obtain ⟨c0, c1, c2, c3, c4, c5, c6, hs_c⟩ := id hk0
    go_enter Try.func21, Try.ntmps21
    go_wp2_with fail
    (with_reducible refine (K1.out _ hk0).mono ?_)
    rintro e w1 ⟨rfl, hk1⟩
    clear c0 c1 c2 c3 c4 c5 c6 hs_c
    obtain ⟨c0, c1, c2, c3, c4, c5, c6, hs_c⟩ := id hk1
    go_wp2_with fail
    (with_reducible refine (K2.out _ hk1).mono ?_)
    rintro e w2 ⟨rfl, hk2⟩
    go_wp2_with fail
    go_ret
    exact ⟨ret_b E.out.symm, SNA.low hk2⟩
  rw [hra] at K2
  cases hv : !(n.a.v6 == a.v6)
  · have hv2 : n.a.v6 = a.v6 := by simpa using hv
    have HB := Lib.hid (has_bits hn ha hrn hra hv2)
    have hm := right_made hrn
    have hbb := bitsA_two n.a
    have hbe := bitsA_v6 hv2
    have H2 := Lib.hid (bitN_two n.a)
    have H3 := Lib.hid (bitN_two a)
    have B1 : Hid (∀ j, j < bitsA n.a → ∀ W, SNA n a w W → Calls Try.prog 20 #[.agg #[.bool n.a.v6, .int .u64 n.a.hi, .int .u64 n.a.lo], .int .i64 (j : Nat)] W fun e w' => e = .returned (.int .i64 (bitN n.a j : Nat)) ∧ SNA n a w w') := Lib.hid fun j hj W h => by
      have := rbit_any n.a (j : Int) W hn.1 (by omega) (by omega)
      rw [bitA_in hj] at this
      exact this.mono fun e w' ⟨he, hb⟩ => ⟨he, h.on hb⟩
    have B2 : Hid (∀ j, j < bitsA n.a → ∀ W, SNA n a w W → Calls Try.prog 20 #[.agg #[.bool a.v6, .int .u64 a.hi, .int .u64 a.lo], .int .i64 (j : Nat)] W fun e w' => e = .returned (.int .i64 (bitN a j : Nat)) ∧ SNA n a w w') := Lib.hid fun j hj W h => by
      have := rbit_any a (j : Int) W ha (by omega) (by omega)
      rw [bitA_in (by omega)] at this
      exact this.mono fun e w' ⟨he, hb⟩ => ⟨he, h.on hb⟩
    obtain ⟨t, ht⟩ : ∃ t : Nat, n.n = (t : Int) := ⟨n.n.toNat, by omega⟩
    have HT := Lib.hid ht
    have htb : t ≤ bitsA n.a := by omega
    rw [show n.n.toNat = t by omega] at HB
    clear hrn hra hm hbe hv2 ht
    obtain ⟨c0, c1, c2, c3, c4, c5, c6, hs_c⟩ := id hk0
    go_enter Try.func21, Try.ntmps21
    go_wp2_with fail
    (with_reducible refine (K1.out _ hk0).mono ?_)
    rintro e w1 ⟨rfl, hk1⟩
    clear c0 c1 c2 c3 c4 c5 c6 hs_c
    obtain ⟨c0, c1, c2, c3, c4, c5, c6, hs_c⟩ := id hk1
    go_wp2_with fail
    (with_reducible refine (K2.out _ hk1).mono ?_)
    rintro e w2 ⟨rfl, hk2⟩
    clear c0 c1 c2 c3 c4 c5 c6 hs_c
    obtain ⟨c0, c1, c2, c3, c4, c5, c6, hs_c⟩ := id hk2
    go_wp2_with fail
    clear c0 c1 c2 c3 c4 c5 c6 hs_c
    go_loopw [5] (fun i wr => ∃ k : Nat, k ≤ t ∧ i = .int .i64 k ∧ Hid (∀ j, j < k → bitN n.a j = bitN a j) ∧ Hid (SNA n a w wr)) (fun i _ => t - (intOf i).toNat)
    case atStart => exact ⟨0, Nat.zero_le _, rfl, Lib.hid (fun j h => by omega), Lib.hid hk2⟩
    case round =>
      obtain ⟨k, hk, rfl, HA, HS⟩ := hrel
      obtain ⟨c0, c1, c2, c3, c4, c5, c6, hs_c⟩ := id HS.out
      rw [HT.out] at c3
      by_cases hlt : k < t
      · have G1 := Lib.hid (B1.out k (by omega))
        have G2 := Lib.hid (B2.out k (by omega))
        have hin := HS.out
        cases hd : (((bitN n.a k : Nat) : Int) != ((bitN a k : Nat) : Int))
        · have HA2 : Hid (∀ j, j < k + 1 → bitN n.a j = bitN a j) := Lib.hid fun j hj => by
            by_cases e : j = k
            · subst e; simp at hd; omega
            · exact HA.out j (by omega)
          go_wp2_with fail
          clear c0 c1 c2 c3 c4 c5 c6 hs_c
          have hne : Nonempty (Cls (SNA n a w)) := ⟨⟨_, hin⟩⟩
          have f0 : ∀ q : Cls (SNA n a w), q.w.cell? ⟨w.heap.size, 0, none⟩ = some (.bool n.a.v6) := fun q => q.h.1
          have f1 : ∀ q : Cls (SNA n a w), q.w.cell? ⟨w.heap.size, 1, none⟩ = some (.int .u64 n.a.hi) := fun q => q.h.2.1
          have f2 : ∀ q : Cls (SNA n a w), q.w.cell? ⟨w.heap.size, 2, none⟩ = some (.int .u64 n.a.lo) := fun q => q.h.2.2.1
          have f3 : ∀ q : Cls (SNA n a w), q.w.cell? ⟨w.heap.size, 3, none⟩ = some (.int .i64 n.n) := fun q => q.h.2.2.2.1
          have f4 : ∀ q : Cls (SNA n a w), q.w.cell? ⟨w.heap.size + 1, 0, none⟩ = some (.bool a.v6) := fun q => q.h.2.2.2.2.1
          have f5 : ∀ q : Cls (SNA n a w), q.w.cell? ⟨w.heap.size + 1, 1, none⟩ = some (.int .u64 a.hi) := fun q => q.h.2.2.2.2.2.1
          have f6 : ∀ q : Cls (SNA n a w), q.w.cell? ⟨w.heap.size + 1, 2, none⟩ = some (.int .u64 a.lo) := fun q => q.h.2.2.2.2.2.2.1
          refine Cls.region (SNA n a w) (by kernel_rfl) (by kernel_rfl) (SNA.of (low_drewN hin.2.2.2.2.2.2.2 1)) ?_
          repeat (go_big_quiet_step (first | (with_reducible exact Cls.call (G1.out _ (Cls.h _))) | (with_reducible exact Cls.call (G2.out _ (Cls.h _)))))
          refine wpQuiet_nil ?_
          intro n9
          have hk9 := n9.h
          generalize n9.w = w9 at hk9 ⊢
          clear hne n9 f0 f1 f2 f3 f4 f5 f6
          go_wp2
          go_roundw
          case rel => exact ⟨k + 1, by omega, by go_num, HA2, Lib.hid hk9⟩
          case measure => simp [intOf]; omega
        · have E : Hid (hasN n a = false) := Lib.hid (by
            rw [← Bool.not_eq_true, HB.out]
            intro h
            have := h k hlt
            simp at hd; omega)
          go_wp2_with fail
          clear c0 c1 c2 c3 c4 c5 c6 hs_c
          have hne : Nonempty (Cls (SNA n a w)) := ⟨⟨_, hin⟩⟩
          have f0 : ∀ q : Cls (SNA n a w), q.w.cell? ⟨w.heap.size, 0, none⟩ = some (.bool n.a.v6) := fun q => q.h.1
          have f1 : ∀ q : Cls (SNA n a w), q.w.cell? ⟨w.heap.size, 1, none⟩ = some (.int .u64 n.a.hi) := fun q => q.h.2.1
          have f2 : ∀ q : Cls (SNA n a w), q.w.cell? ⟨w.heap.size, 2, none⟩ = some (.int .u64 n.a.lo) := fun q => q.h.2.2.1
          have f3 : ∀ q : Cls (SNA n a w), q.w.cell? ⟨w.heap.size, 3, none⟩ = some (.int .i64 n.n) := fun q => q.h.2.2.2.1
          have f4 : ∀ q : Cls (SNA n a w), q.w.cell? ⟨w.heap.size + 1, 0, none⟩ = some (.bool a.v6) := fun q => q.h.2.2.2.2.1
          have f5 : ∀ q : Cls (SNA n a w), q.w.cell? ⟨w.heap.size + 1, 1, none⟩ = some (.int .u64 a.hi) := fun q => q.h.2.2.2.2.2.1
          have f6 : ∀ q : Cls (SNA n a w), q.w.cell? ⟨w.heap.size + 1, 2, none⟩ = some (.int .u64 a.lo) := fun q => q.h.2.2.2.2.2.2.1
          refine Cls.region (SNA n a w) (by kernel_rfl) (by kernel_rfl) (SNA.of (low_drewN hin.2.2.2.2.2.2.2 1)) ?_
          repeat (go_big_quiet_step (first | (with_reducible exact Cls.call (G1.out _ (Cls.h _))) | (with_reducible exact Cls.call (G2.out _ (Cls.h _)))))
          refine wpQuiet_nil ?_
          intro n9
          have hk9 := n9.h
          generalize n9.w = w9 at hk9 ⊢
          clear hne n9 f0 f1 f2 f3 f4 f5 f6
          go_wp2
          go_ret
          exact ⟨ret_b E.out.symm, SNA.low hk9⟩
      · have E : Hid (hasN n a = true) := Lib.hid (by rw [HB.out]; intro j hj; exact HA.out j (by omega))
        have HL := Lib.hid (SNA.low HS.out)
        go_wp2
        go_ret
        exact ⟨ret_b E.out.symm, HL.out⟩
  · have E : Hid (hasN n a = false) := Lib.hid (by rw [← Bool.not_eq_true]; intro h; have := (HP.out h).2.2; rw [this] at hv; simp at hv)
    clear hrn hra
    obtain ⟨c0, c1, c2, c3, c4, c5, c6, hs_c⟩ := id hk0
    go_enter Try.func21, Try.ntmps21
    go_wp2_with fail
    (with_reducible refine (K1.out _ hk0).mono ?_)
    rintro e w1 ⟨rfl, hk1⟩
    clear c0 c1 c2 c3 c4 c5 c6 hs_c
    obtain ⟨c0, c1, c2, c3, c4, c5, c6, hs_c⟩ := id hk1
    go_wp2_with fail
    (with_reducible refine (K2.out _ hk1).mono ?_)
    rintro e w2 ⟨rfl, hk2⟩
    clear c0 c1 c2 c3 c4 c5 c6 hs_c
    obtain ⟨c0, c1, c2, c3, c4, c5, c6, hs_c⟩ := id hk2
    go_wp2_with fail
    go_ret
    exact ⟨ret_b E.out.symm, SNA.low hk2⟩
end Go.Proofs.Ytgnjbbohphoojaa.Ci
/- Contract of package cidr: the order of subnets. -/
namespace Go.Proofs.Ytgnjbbohphoojaa.Ci
set_option maxRecDepth 100000
open Go.ChangeShapes Go.WideShapes Go.ChangeAt Go.RowKit
open Dec Words V4 V6 Ad
set_option linter.unusedVariables false
end Go.Proofs.Ytgnjbbohphoojaa.Ci
/- Contracts of the document's own answers for layer 11: lists of subnets. -/
namespace Go.Proofs.Ytgnjbbohphoojaa.Tr
set_option maxRecDepth 100000
open Go.ChangeShapes Go.WideShapes Go.ChangeAt Go.RowKit
open Dec Words V4 V6 Ad Ci
set_option linter.unusedVariables false
def encH (h : Hit) : List Value := [.bool h.n.a.v6, .int .u64 h.n.a.hi, .int .u64 h.n.a.lo, .int .i64 h.n.n, .int .i64 h.v]
theorem encH_len (h : Hit) : (encH h).length = 5 := rfl
theorem encH_one (h : Hit) : ∀ u ∈ encH h, u.oneCell' = true := by
  intro u hu
  simp only [encH, List.mem_cons, List.not_mem_nil, or_false] at hu
  rcases hu with rfl | rfl | rfl | rfl | rfl <;> rfl
abbrev Hits (w : World) (v : Value) (l : List Hit) : Prop := Recs 5 encH w v l
/-- The five cells of an element. -/
theorem hit_cells {w : World} {b o : Nat} {l : List Hit} (h : ∀ i (h : i < l.length) j u, (encH l[i])[j]? = some u → w.cell? ⟨b, o + i * 5 + j, none⟩ = some u) {k : Nat} (hk : k < l.length) :
    w.cell? ⟨b, o + k * 5, none⟩ = some (.bool l[k].n.a.v6) ∧ w.cell? ⟨b, o + k * 5 + 1, none⟩ = some (.int .u64 l[k].n.a.hi) ∧ w.cell? ⟨b, o + k * 5 + 2, none⟩ = some (.int .u64 l[k].n.a.lo) ∧ w.cell? ⟨b, o + k * 5 + 3, none⟩ = some (.int .i64 l[k].n.n) ∧ w.cell? ⟨b, o + k * 5 + 4, none⟩ = some (.int .i64 l[k].v) :=
  ⟨h k hk 0 _ rfl, h k hk 1 _ rfl, h k hk 2 _ rfl, h k hk 3 _ rfl, h k hk 4 _ rfl⟩
theorem cut_le (l : List Hit) (n : Net) (k : Nat) : (cut (l.take k) n).length ≤ l.length := Nat.le_trans (List.length_filter_le _ _) (by rw [List.length_take]; omega)
theorem found_none {l : List Hit} {n : Net} (h : ∀ i (h : i < l.length), sameN l[i].n n = false) : found l n = none := by
  unfold found
  rw [List.find?_eq_none]
  intro x hx
  obtain ⟨i, hi, rfl⟩ := List.getElem_of_mem hx
  rw [h i hi]; simp
theorem found_at {l : List Hit} {n : Net} (k : Nat) (hk : k < l.length) (h : ∀ i (h : i < k), sameN l[i].n n = false) (hs : sameN l[k].n n = true) : found l n = some l[k] := by
  unfold found
  rw [List.find?_eq_some_iff_getElem]
  exact ⟨hs, k, hk, rfl, fun j hj => by rw [h j hj]; rfl⟩
end Go.Proofs.Ytgnjbbohphoojaa.Tr
/- Contracts of the document's own answers for layer 11: what is put in, and which subnets hold an address. -/
namespace Go.Proofs.Ytgnjbbohphoojaa.Tr
set_option maxRecDepth 100000
open Go.ChangeShapes Go.WideShapes Go.ChangeAt Go.RowKit
open Dec Words V4 V6 Ad Ci
set_option linter.unusedVariables false
theorem keep_call {P : Program} {f : FuncId} {args : Array Value} {wr : World} {v : Value} (h : ∀ W, Calls P f args W fun e w' => e = .returned v ∧ Below W.heap.size W w') : ∀ W, Stays wr W → Calls P f args W fun e w' => e = .returned v ∧ Stays wr w' :=
  fun W hs => (h W).mono fun e w' ⟨he, hb⟩ => ⟨he, low_trans hs hb⟩
theorem cut_ok {l : List Hit} (h : ∀ x ∈ l, x.ok) (n : Net) : ∀ x ∈ cut l n, x.ok := fun x hx => h x (List.mem_filter.1 hx).1
def upTo (n : Net) (V : Int) (l : List Hit) : List Hit := if ahead n l then putIn n V l else l
theorem upTo_done {n : Net} {V : Int} {L : List Hit} {k : Nat} (h : k < L.length) (ha : ahead n (L.take k) = true) : ahead n (L.take (k + 1)) = true ∧ upTo n V (L.take (k + 1)) = upTo n V (L.take k) ++ [L[k]] := by
  have e : ahead n (L.take (k + 1)) = true := by rw [ahead_snoc n L k h, ha]; rfl
  refine ⟨e, ?_⟩
  unfold upTo
  rw [if_pos e, if_pos ha, List.take_succ_eq_append_getElem h, putIn_more V _ ha]
theorem upTo_here {n : Net} {V : Int} {L : List Hit} {k : Nat} (h : k < L.length) (ha : ahead n (L.take k) = false) (hc : cmpN n L[k].n < 0) : ahead n (L.take (k + 1)) = true ∧ upTo n V (L.take (k + 1)) = upTo n V (L.take k) ++ [⟨n, V⟩] ++ [L[k]] := by
  have e : ahead n (L.take (k + 1)) = true := by rw [ahead_snoc n L k h, ha]; simp [hc]
  refine ⟨e, ?_⟩
  unfold upTo
  rw [if_pos e, if_neg (by rw [ha]; simp), List.take_succ_eq_append_getElem h, putIn_here V ha hc]
theorem upTo_not {n : Net} {V : Int} {L : List Hit} {k : Nat} (h : k < L.length) (ha : ahead n (L.take k) = false) (hc : ¬ cmpN n L[k].n < 0) : ahead n (L.take (k + 1)) = false ∧ upTo n V (L.take (k + 1)) = upTo n V (L.take k) ++ [L[k]] := by
  have e : ahead n (L.take (k + 1)) = false := by rw [ahead_snoc n L k h, ha]; simp; omega
  refine ⟨e, ?_⟩
  unfold upTo
  rw [if_neg (by rw [e]; simp), if_neg (by rw [ha]; simp), List.take_succ_eq_append_getElem h]
theorem putIn_len (n : Net) (V : Int) : ∀ l : List Hit, (putIn n V l).length = l.length + 1
  | [] => rfl
  | x :: l => by
    unfold putIn
    split
    · rfl
    · simp [putIn_len n V l]
theorem upTo_le (n : Net) (V : Int) (L : List Hit) (k : Nat) : (upTo n V (L.take k)).length ≤ L.length + 1 := by
  unfold upTo
  split
  · rw [putIn_len, List.length_take]; omega
  · rw [List.length_take]; omega
theorem upTo_all {n : Net} {V : Int} {L : List Hit} {k : Nat} (h : L.length ≤ k) (b : Bool) (hb : ahead n (L.take k) = b) : (b = true → putIn n V L = upTo n V (L.take k)) ∧ (b = false → putIn n V L = upTo n V (L.take k) ++ [⟨n, V⟩]) := by
  rw [List.take_of_length_le h] at hb ⊢
  unfold upTo
  rw [hb]
  exact ⟨fun e => by rw [e, if_pos rfl], fun e => by rw [e, if_neg (by simp)]; exact putIn_none V (by rw [hb, e])⟩
end Go.Proofs.Ytgnjbbohphoojaa.Tr
/- Contract of the document's own answer for layer 11: which subnets hold an address. -/
namespace Go.Proofs.Ytgnjbbohphoojaa.Tr
set_option maxRecDepth 100000
open Go.ChangeShapes Go.WideShapes Go.ChangeAt Go.RowKit
open Dec Words V4 V6 Ad Ci
set_option linter.unusedVariables false
def outer (l : List Hit) (a : Adr) (b : Nat) : List Hit := (List.range b).flatMap fun b : Nat => level l a (b : Int)
theorem outer_next (l : List Hit) (a : Adr) (b : Nat) : outer l a (b + 1) = outer l a b ++ level l a (b : Int) := by
  unfold outer; rw [List.range_succ, List.flatMap_append]; simp
theorem level_le (l : List Hit) (a : Adr) (b : Int) : (level l a b).length ≤ l.length := List.length_filter_le _ _
theorem level_take (l : List Hit) (a : Adr) (b : Int) (k : Nat) : (level (l.take k) a b).length ≤ l.length := Nat.le_trans (level_le _ a b) (by rw [List.length_take]; omega)
theorem outer_le (l : List Hit) (a : Adr) : ∀ b, (outer l a b).length ≤ b * l.length
  | 0 => by simp [outer]
  | b + 1 => by
    rw [outer_next, List.length_append, Nat.succ_mul]
    have := outer_le l a b
    have := level_le l a (b : Int)
    omega
end Go.Proofs.Ytgnjbbohphoojaa.Tr
