/- Trees of subnets by their bits, in plain words: what they hold, in which order; what is put in, taken out, found; no program. -/
import Derived.Test.YtgnpnmdndlodlaaTrieAll
namespace Go.Proofs.Ytgnpnmdndlodlaa.Ci
set_option maxRecDepth 100000
set_option linter.unusedVariables false
open Dec Words V4 V6 Ad
/-! Bits and the order of addresses. -/
theorem num_less {x y k w : Nat} (hk : k < w) (hx : x < 2 ^ w) (hy : y < 2 ^ w) (h : ∀ j, j < k → x / 2 ^ (w - 1 - j) % 2 = y / 2 ^ (w - 1 - j) % 2) (h0 : x / 2 ^ (w - 1 - k) % 2 = 0) (h1 : y / 2 ^ (w - 1 - k) % 2 = 1) : x < y := by
  have tb : ∀ n j, n / 2 ^ j % 2 = (n.testBit j).toNat := bit_test
  have inj : ∀ p q : Bool, p.toNat = q.toNat → p = q := by decide
  generalize hs : w - 1 - k = s at h0 h1
  have q : x / 2 ^ (s + 1) = y / 2 ^ (s + 1) := Nat.eq_of_testBit_eq fun i => by
    rw [Nat.testBit_div_two_pow, Nat.testBit_div_two_pow]
    by_cases hw : i + (s + 1) < w
    · have e := h (w - 1 - (i + (s + 1))) (by omega)
      rw [show w - 1 - (w - 1 - (i + (s + 1))) = i + (s + 1) from by omega, tb, tb] at e
      exact inj _ _ e
    · rw [Nat.testBit_lt_two_pow (Nat.lt_of_lt_of_le hx (Nat.pow_le_pow_right (by omega) (by omega))), Nat.testBit_lt_two_pow (Nat.lt_of_lt_of_le hy (Nat.pow_le_pow_right (by omega) (by omega)))]
  have d : ∀ n : Nat, n / 2 ^ (s + 1) = n / 2 ^ s / 2 := fun n => by rw [Nat.div_div_eq_div_mul, ← Nat.pow_succ]
  rw [d, d] at q
  have : x / 2 ^ s < y / 2 ^ s := by omega
  exact Nat.lt_of_not_le fun hle => absurd (Nat.div_le_div_right (c := 2 ^ s) hle) (by omega)
theorem cmp_less {a b : Adr} (h : lessA a b = true) : cmpA a b < 0 := by
  unfold cmpA
  have hs : sameA a b = false := by
    cases hs : sameA a b
    · rfl
    · obtain rfl := (sameA_iff a b).1 hs
      have := (lessA_iff a a).1 h
      simp at this
  rw [hs, h]; decide
theorem cmp_bit {a b : Adr} (ha : a.ok) (hb : b.ok) (ra : rightA a = true) (rb : rightA b = true) (hv : a.v6 = b.v6) {k : Nat} (hk : k < bitsA a) (h : ∀ j, j < k → bitN a j = bitN b j) (h0 : bitN a k = 0) (h1 : bitN b k = 1) : cmpA a b < 0 := by
  refine cmp_less ((lessA_iff a b).2 (Or.inr ⟨hv, ?_⟩))
  obtain ⟨v, hi, lo⟩ := a
  obtain ⟨u, hi', lo'⟩ := b
  simp only [] at hv
  subst hv
  obtain ⟨ha1, ha2⟩ := ha
  obtain ⟨hb1, hb2⟩ := hb
  simp only [] at ha1 ha2 hb1 hb2 ⊢
  cases v
  · have hB : bitsA ⟨false, hi, lo⟩ = 32 := rfl
    rw [hB] at hk
    simp only [rightA, Bool.false_eq_true, if_false, Bool.and_eq_true, decide_eq_true_eq] at ra rb
    refine Or.inr ⟨by omega, num_less (w := 32) hk (by omega) (by omega) (fun j hj => ?_) ?_ ?_⟩
    · have := h j hj; simpa [bitN] using this
    · simpa [bitN] using h0
    · simpa [bitN] using h1
  · have hB : bitsA ⟨true, hi, lo⟩ = 128 := rfl
    rw [hB] at hk
    by_cases hk64 : k < 64
    · refine Or.inl (num_less (w := 64) hk64 (by omega) (by omega) (fun j hj => ?_) ?_ ?_)
      · have := h j hj
        simpa [bitN, show j < 64 from by omega] using this
      · simpa [bitN, hk64] using h0
      · simpa [bitN, hk64] using h1
    · refine Or.inr ⟨same_low (k := 64) (by omega) (by omega) fun j hj => ?_, num_less (k := k - 64) (w := 64) (by omega) (by omega) (by omega) (fun j hj => ?_) ?_ ?_⟩
      · have := h (63 - j) (by omega)
        simp only [bitN, if_true, if_pos (show 63 - j < 64 from by omega), show 63 - (63 - j) = j from by omega] at this
        exact this
      · have := h (64 + j) (by omega)
        simp only [bitN, if_true, if_neg (show ¬ 64 + j < 64 from by omega), show 127 - (64 + j) = 64 - 1 - j from by omega] at this
        exact this
      · simp only [bitN, if_true, if_neg hk64, show 127 - k = 64 - 1 - (k - 64) from by omega] at h0
        exact h0
      · simp only [bitN, if_true, if_neg hk64, show 127 - k = 64 - 1 - (k - 64) from by omega] at h1
        exact h1
theorem cmp_first (a : Adr) (k : Nat) : cmpA (firstA a k) a ≤ 0 := by
  by_cases e : firstA a k = a
  · rw [e, (cmp_zero a a).2 rfl]; omega
  · refine Int.le_of_lt (cmp_less ((lessA_iff _ _).2 (Or.inr ⟨rfl, ?_⟩)))
    have h1 := keep_le a.hi (bitsA a - k - 64)
    have h2 := keep_le a.lo (bitsA a - k)
    show keep a.hi (bitsA a - k - 64) < a.hi ∨ keep a.hi (bitsA a - k - 64) = a.hi ∧ keep a.lo (bitsA a - k) < a.lo
    by_cases g : keep a.hi (bitsA a - k - 64) = a.hi
    · refine Or.inr ⟨g, ?_⟩
      by_cases g2 : keep a.lo (bitsA a - k) = a.lo
      · exact absurd (adr_eq (a := firstA a k) (b := a) rfl g g2) e
      · omega
    · omega
theorem net_eq {m n : Net} (h1 : m.a = n.a) (h2 : m.n = n.n) : m = n := by cases m; cases n; simp_all
/-- A subnet in another one's half. -/
def Sub (n : Net) (b : Nat) (m : Net) : Prop := m.a.v6 = n.a.v6 ∧ n.n < m.n ∧ (∀ j, j < n.n.toNat → bitN m.a j = bitN n.a j) ∧ bitN m.a n.n.toNat = b
/-- A subnet that may be. -/
structure Ok (n : Net) : Prop where
  ok : n.ok
  right : rightN n = true
theorem Ok.made {n : Net} (h : Ok n) : rightA n.a = true ∧ 0 ≤ n.n ∧ n.n ≤ (bitsA n.a : Int) := right_made h.right
theorem sub_has {n m : Net} {b : Nat} (hn : Ok n) (hm : Ok m) (h : Sub n b m) : hasN n m.a = true :=
  (has_bits hn.ok hm.ok.1 hn.right hm.made.1 h.1.symm).2 fun j hj => (h.2.2.1 j hj).symm
theorem sub_less {n m : Net} {b : Nat} (hn : Ok n) (hm : Ok m) (h : Sub n b m) : cmpN n m < 0 := by
  have e := (has_first hn.right hm.made.1 h.1.symm).1 (sub_has hn hm h)
  have c := cmp_first m.a n.n.toNat
  rw [e] at c
  unfold cmpN En.cmpI
  split
  · rw [if_pos h.2.1]; omega
  · omega
theorem bit_in {n : Net} (hn : Ok n) {j : Nat} (h : (j : Int) < n.n) : j < bitsA n.a := by have := hn.made; omega
theorem halves_less {n m k : Net} (hn : Ok n) (hm : Ok m) (hk : Ok k) (h0 : Sub n 0 m) (h1 : Sub n 1 k) : cmpN m k < 0 := by
  have c : cmpA m.a k.a < 0 := by
    have := hn.made
    have := h0.2.1
    refine cmp_bit hm.ok.1 hk.ok.1 hm.made.1 hk.made.1 (h0.1.trans h1.1.symm) (k := n.n.toNat) (bit_in hm (by omega)) (fun j hj => ?_) h0.2.2.2 h1.2.2.2
    rw [h0.2.2.1 j hj, h1.2.2.1 j hj]
  unfold cmpN
  rw [if_neg (by omega)]; exact c
theorem sub_sub {n m k : Net} {b c : Nat} (hn : Ok n) (h : Sub n b m) (g : Sub m c k) : Sub n b k := by
  have := hn.made
  have := h.2.1
  refine ⟨g.1.trans h.1, by have := g.2.1; omega, fun j hj => ?_, ?_⟩
  · rw [g.2.2.1 j (by omega), h.2.2.1 j hj]
  · rw [g.2.2.1 _ (by omega), h.2.2.2]
theorem kind_less {m k : Net} (h0 : m.a.v6 = false) (h1 : k.a.v6 = true) : cmpN m k < 0 := by
  have c : cmpA m.a k.a < 0 := cmp_less ((lessA_iff _ _).2 (Or.inl ⟨h0, h1⟩))
  unfold cmpN
  rw [if_neg (by omega)]; exact c
/-- Where two part. -/
def comm (x y : Adr) : Nat → Nat → Nat
  | k, 0 => k
  | k, f + 1 => if bitN x k = bitN y k then comm x y (k + 1) f else k
theorem comm_spec (x y : Adr) : ∀ f k, k ≤ comm x y k f ∧ comm x y k f ≤ k + f ∧ (∀ j, k ≤ j → j < comm x y k f → bitN x j = bitN y j) ∧ (comm x y k f < k + f → bitN x (comm x y k f) ≠ bitN y (comm x y k f))
  | 0, k => by
    refine ⟨Nat.le_refl _, Nat.le_refl _, fun j h1 h2 => ?_, fun h => ?_⟩
    · unfold comm at h2; omega
    · unfold comm at h; omega
  | f + 1, k => by
    unfold comm
    split
    · rename_i e
      obtain ⟨h1, h2, h3, h4⟩ := comm_spec x y f (k + 1)
      refine ⟨by omega, by omega, fun j g1 g2 => ?_, fun g => h4 (by omega)⟩
      by_cases hj : j = k
      · rw [hj]; exact e
      · exact h3 j (by omega) g2
    · rename_i e
      exact ⟨Nat.le_refl _, by omega, fun j g1 g2 => by omega, fun _ => e⟩
def commN (m n : Net) : Nat := comm m.a n.a 0 (min m.n.toNat n.n.toNat)
def sharedN (m n : Net) : Net := makeN m.a (commN m n : Nat)
theorem commN_le (m n : Net) : commN m n ≤ m.n.toNat ∧ commN m n ≤ n.n.toNat := by
  have := (comm_spec m.a n.a (min m.n.toNat n.n.toNat) 0).2.1
  unfold commN; omega
theorem shared_is {m n : Net} (hm : Ok m) : sharedN m n = ⟨firstA m.a (commN m n), (commN m n : Nat)⟩ ∧ Ok (sharedN m n) := by
  have h := hm.made
  have hc := commN_le m n
  have hb : makeB m.a (commN m n : Nat) = true := (makeB_iff _ _).2 ⟨h.1, by omega, by omega⟩
  refine ⟨?_, ⟨makeN_ok hm.ok.1 _, make_right hb⟩⟩
  unfold sharedN makeN
  rw [if_pos hb]; rfl
theorem shared_bits {m n : Net} (hm : Ok m) (hv : m.a.v6 = n.a.v6) : (sharedN m n).a.v6 = m.a.v6 ∧ (sharedN m n).n = (commN m n : Nat) ∧ (∀ j, j < commN m n → bitN m.a j = bitN (sharedN m n).a j ∧ bitN n.a j = bitN (sharedN m n).a j) := by
  obtain ⟨e, _⟩ := shared_is (n := n) hm
  have h := hm.made
  have hc := commN_le m n
  rw [e]
  refine ⟨rfl, rfl, fun j hj => ?_⟩
  have g : bitN (firstA m.a (commN m n)) j = bitN m.a j := by
    rw [first_bit (by omega) (by omega), if_pos hj]
  have g2 := (comm_spec m.a n.a (min m.n.toNat n.n.toNat) 0).2.2.1 j (Nat.zero_le _) hj
  exact ⟨g.symm, g2.symm.trans g.symm⟩
theorem shared_part {m n : Net} (h1 : commN m n < m.n.toNat) (h2 : commN m n < n.n.toNat) : bitN m.a (commN m n) ≠ bitN n.a (commN m n) :=
  (comm_spec m.a n.a (min m.n.toNat n.n.toNat) 0).2.2.2 (by unfold commN at h1 h2; omega)
def withinN (m n : Net) : Bool := rightN m && (decide (n.n ≤ m.n) && hasN n m.a)
theorem has_same {m n : Net} (hm : Ok m) (hn : Ok n) (h : hasN n m.a = true) (e : m.n = n.n) : m = n := by
  have h1 := (has_first hn.right hm.made.1 (has_parts h).2.2).1 h
  have h2 := ((rightN_iff m).1 hm.right).2
  exact net_eq (by rw [← h1, ← h2, ← e, first_first, Nat.min_self]) e
theorem within_sub {m n : Net} (hm : Ok m) (hn : Ok n) (h : withinN m n = true) (hne : n ≠ m) : Sub n (bitN m.a n.n.toNat) m := by
  unfold withinN at h
  rw [Bool.and_eq_true, Bool.and_eq_true, decide_eq_true_eq] at h
  obtain ⟨_, h2, h3⟩ := h
  have hv := (has_parts h3).2.2
  have hb := (has_bits hn.ok hm.ok.1 hn.right hm.made.1 hv).1 h3
  refine ⟨hv.symm, ?_, fun j hj => (hb j hj).symm, rfl⟩
  have : n.n ≠ m.n := fun e => hne (has_same hm hn h3 e.symm).symm
  omega
/-- Neither in the other nor the same: they part ahead of where the second ends. -/
theorem shared_less {m n : Net} (hm : Ok m) (hn : Ok n) (hv : m.a.v6 = n.a.v6) (h : withinN m n = false) : commN m n < n.n.toNat := by
  have hc := commN_le m n
  refine Nat.lt_of_le_of_ne hc.2 fun e => ?_
  have h1 := hm.made
  have h2 := hn.made
  have : withinN m n = true := by
    unfold withinN
    rw [Bool.and_eq_true, Bool.and_eq_true, decide_eq_true_eq]
    refine ⟨hm.right, by omega, (has_bits hn.ok hm.ok.1 hn.right h1.1 hv.symm).2 fun j hj => ?_⟩
    exact ((comm_spec m.a n.a (min m.n.toNat n.n.toNat) 0).2.2.1 j (Nat.zero_le _) (by unfold commN at e; omega)).symm
  rw [this] at h; cases h
theorem shared_sub {m n : Net} (hm : Ok m) (hv : m.a.v6 = n.a.v6) (h2 : commN m n < n.n.toNat) : Sub (sharedN m n) (bitN n.a (commN m n)) n := by
  obtain ⟨e1, e2, e3⟩ := shared_bits hm hv
  refine ⟨by rw [e1, hv], by rw [e2]; omega, fun j hj => ?_, by rw [e2]; rfl⟩
  rw [e2] at hj
  exact (e3 j hj).2
theorem shared_sub' {m n : Net} (hm : Ok m) (hv : m.a.v6 = n.a.v6) (hne : sharedN m n ≠ m) : commN m n < m.n.toNat ∧ Sub (sharedN m n) (bitN m.a (commN m n)) m := by
  obtain ⟨e1, e2, e3⟩ := shared_bits hm hv
  have h := hm.made
  have hlt : commN m n < m.n.toNat := by
    refine Nat.lt_of_le_of_ne (commN_le m n).1 fun e => hne ?_
    rw [(shared_is (n := n) hm).1, e]
    exact net_eq ((rightN_iff m).1 hm.right).2 (by simp; omega)
  refine ⟨hlt, e1.symm, by rw [e2]; omega, fun j hj => ?_, by rw [e2]; rfl⟩
  rw [e2] at hj
  exact (e3 j hj).1
/-- What holds both holds what they share. -/
theorem sub_shared {q m n : Net} {b : Nat} (hq : Ok q) (hm : Ok m) (hn : Ok n) (h : Sub q b m) (g : Sub q b n) : Sub q b (sharedN m n) := by
  obtain ⟨e1, e2, e3⟩ := shared_bits hm (h.1.trans g.1.symm)
  have h0 := hq.made
  have h1 := h.2.1
  have h2 := g.2.1
  have hc : q.n.toNat < commN m n := by
    refine Nat.lt_of_not_le fun hle => ?_
    have := shared_part (m := m) (n := n) (by omega) (by omega)
    by_cases e : commN m n = q.n.toNat
    · rw [e, h.2.2.2, g.2.2.2] at this; exact this rfl
    · rw [h.2.2.1 _ (by omega), g.2.2.1 _ (by omega)] at this; exact this rfl
  refine ⟨e1.trans h.1, by rw [e2]; omega, fun j hj => ?_, ?_⟩
  · rw [← (e3 j (by omega)).1, h.2.2.1 j hj]
  · rw [← (e3 _ hc).1, h.2.2.2]
theorem bitA_at {n : Net} (hn : Ok n) {i : Int} (h0 : 0 ≤ i) (h : i < n.n) : bitA n.a i = (bitN n.a i.toNat : Int) := by
  have := hn.made
  unfold bitA
  rw [if_pos (by omega)]
end Go.Proofs.Ytgnpnmdndlodlaa.Ci
namespace Go.Proofs.Ytgnpnmdndlodlaa.Tr
set_option maxRecDepth 100000
set_option linter.unusedVariables false
open Ad Ci
instance : DecidableEq Net := fun m n => decidable_of_iff (sameN m n = true) (sameN_iff m n)
/-- A tree. -/
inductive Tri where
  | leaf
  | node (n : Net) (i : Bool) (v : Int) (z o : Tri)
def Tri.list : Tri → List Hit
  | .leaf => []
  | .node n i v z o => (if i then [⟨n, v⟩] else []) ++ (z.list ++ o.list)
def Tri.each (P : Net → Prop) : Tri → Prop
  | .leaf => True
  | .node n _ _ z o => P n ∧ z.each P ∧ o.each P
def Tri.good : Tri → Prop
  | .leaf => True
  | .node n _ v z o => Ok n ∧ (-9223372036854775808 ≤ v ∧ v ≤ 9223372036854775807) ∧ z.each (Sub n 0) ∧ o.each (Sub n 1) ∧ z.good ∧ o.good
theorem Tri.each_imp {P Q : Net → Prop} : ∀ {t : Tri}, t.each P → (∀ n, P n → Q n) → t.each Q
  | .leaf, _, _ => trivial
  | .node _ _ _ _ _, h, k => ⟨k _ h.1, Tri.each_imp h.2.1 k, Tri.each_imp h.2.2 k⟩
theorem Tri.good_ok : ∀ {t : Tri}, t.good → t.each Ok
  | .leaf, _ => trivial
  | .node _ _ _ _ _, h => ⟨h.1, Tri.good_ok h.2.2.2.2.1, Tri.good_ok h.2.2.2.2.2⟩
theorem Tri.mem_each {P : Net → Prop} : ∀ {t : Tri} {y : Hit}, t.each P → y ∈ t.list → P y.n
  | .leaf, y, _, h => by simp [Tri.list] at h
  | .node n i v z o, y, hp, h => by
    unfold Tri.list at h
    rw [List.mem_append, List.mem_append] at h
    rcases h with h | h | h
    · cases i
      · simp at h
      · simp at h; rw [h]; exact hp.1
    · exact mem_each hp.2.1 h
    · exact mem_each hp.2.2 h
theorem Tri.mem_ok {t : Tri} {y : Hit} (h : t.good) (hy : y ∈ t.list) : Ok y.n := mem_each (Tri.good_ok h) hy
theorem Tri.mem_node {n : Net} {i : Bool} {v : Int} {z o : Tri} {y : Hit} : y ∈ (Tri.node n i v z o).list ↔ (i = true ∧ y = ⟨n, v⟩) ∨ y ∈ z.list ∨ y ∈ o.list := by
  rw [Tri.list, List.mem_append, List.mem_append]
  cases i <;> simp
theorem Tri.val_ok : ∀ {t : Tri} {y : Hit}, t.good → y ∈ t.list → -9223372036854775808 ≤ y.v ∧ y.v ≤ 9223372036854775807
  | .leaf, y, _, h => by simp [Tri.list] at h
  | .node n i v z o, y, g, h => by
    rcases mem_node.1 h with ⟨_, rfl⟩ | h | h
    · exact g.2.1
    · exact val_ok g.2.2.2.2.1 h
    · exact val_ok g.2.2.2.2.2 h
theorem Tri.sorted : ∀ {t : Tri}, t.good → Sorted t.list
  | .leaf, _ => by unfold Sorted Tri.list; simp
  | .node n i v z o, h => by
    obtain ⟨hn, _, h0, h1, g0, g1⟩ := h
    have hz := sorted g0
    have ho := sorted g1
    unfold Sorted at *
    rw [Tri.list, List.pairwise_append, List.pairwise_append]
    refine ⟨by cases i <;> simp, ⟨hz, ho, fun x hx y hy => halves_less hn (mem_ok g0 hx) (mem_ok g1 hy) (mem_each h0 hx) (mem_each h1 hy)⟩, fun x hx y hy => ?_⟩
    have e : x = ⟨n, v⟩ := by cases i <;> simp at hx; exact hx
    rw [e]
    rcases List.mem_append.1 hy with hy | hy
    · exact sub_less hn (mem_ok g0 hy) (mem_each h0 hy)
    · exact sub_less hn (mem_ok g1 hy) (mem_each h1 hy)
/-! What an address is in. -/
def Tri.over (a : Adr) : Tri → List Hit
  | .leaf => []
  | .node n i v z o => if hasN n a then (if i then [⟨n, v⟩] else []) ++ (if bitA a n.n = 0 then z.over a else o.over a) else []
theorem sub_in {n m : Net} {b : Nat} {a : Adr} (hn : Ok n) (hm : Ok m) (ha : a.ok) (h : Sub n b m) (g : hasN m a = true) : hasN n a = true ∧ bitA a n.n = (b : Int) := by
  obtain ⟨_, ra, hv⟩ := has_parts g
  have hb := (has_bits hm.ok ha hm.right ra hv).1 g
  have h0 := hn.made
  have h1 := h.2.1
  have h2 := hm.made
  have hbb := bitsA_v6 hv
  refine ⟨(has_bits hn.ok ha hn.right ra (h.1.symm.trans hv)).2 fun j hj => ?_, ?_⟩
  · rw [← hb j (by omega), h.2.2.1 j hj]
  · unfold bitA
    rw [if_pos (by omega), ← hb _ (by omega), h.2.2.2]
theorem Tri.over_mem {a : Adr} (ha : a.ok) : ∀ {t : Tri} {y : Hit}, t.good → (y ∈ t.over a ↔ y ∈ t.list ∧ hasN y.n a = true)
  | .leaf, y, _ => by simp [Tri.over, Tri.list]
  | .node n i v z o, y, h => by
    obtain ⟨hn, _, h0, h1, g0, g1⟩ := h
    rw [mem_node, Tri.over]
    constructor
    · intro hy
      split at hy
      · rename_i hh
        rcases List.mem_append.1 hy with hy | hy
        · cases i <;> simp at hy
          rw [hy]; exact ⟨Or.inl ⟨rfl, rfl⟩, hh⟩
        · split at hy
          · have := (over_mem ha g0).1 hy
            exact ⟨Or.inr (Or.inl this.1), this.2⟩
          · have := (over_mem ha g1).1 hy
            exact ⟨Or.inr (Or.inr this.1), this.2⟩
      · simp at hy
    · rintro ⟨hy, hh⟩
      rcases hy with ⟨rfl, rfl⟩ | hy | hy
      · rw [if_pos hh]; simp
      · obtain ⟨e1, e2⟩ := sub_in hn (mem_ok g0 hy) ha (mem_each h0 hy) hh
        rw [if_pos e1, if_pos (show bitA a n.n = 0 by rw [e2]; rfl), List.mem_append]
        exact Or.inr ((over_mem ha g0).2 ⟨hy, hh⟩)
      · obtain ⟨e1, e2⟩ := sub_in hn (mem_ok g1 hy) ha (mem_each h1 hy) hh
        rw [if_pos e1, if_neg (show ¬ bitA a n.n = 0 by rw [e2]; decide), List.mem_append]
        exact Or.inr ((over_mem ha g1).2 ⟨hy, hh⟩)
def Rising (l : List Hit) : Prop := l.Pairwise fun x y => x.n.n < y.n.n
theorem Tri.over_rising {a : Adr} (ha : a.ok) : ∀ {t : Tri}, t.good → Rising (t.over a)
  | .leaf, _ => by unfold Rising Tri.over; simp
  | .node n i v z o, h => by
    obtain ⟨hn, _, h0, h1, g0, g1⟩ := h
    have hz := over_rising ha g0
    have ho := over_rising ha g1
    unfold Rising at *
    rw [Tri.over]
    split
    · rw [List.pairwise_append]
      refine ⟨by cases i <;> simp, by split <;> assumption, fun x hx y hy => ?_⟩
      have e : x = ⟨n, v⟩ := by cases i <;> simp at hx; exact hx
      rw [e]
      split at hy
      · exact (mem_each h0 ((over_mem ha g0).1 hy).1).2.1
      · exact (mem_each h1 ((over_mem ha g1).1 hy).1).2.1
    · exact List.Pairwise.nil
theorem rising_one : ∀ {a b : List Hit}, Rising a → Rising b → (∀ y, y ∈ a ↔ y ∈ b) → a = b
  | [], [], _, _, _ => rfl
  | [], y :: b, _, _, h => absurd ((h y).2 (by simp)) (by simp)
  | x :: a, [], _, _, h => absurd ((h x).1 (by simp)) (by simp)
  | x :: a, y :: b, ha, hb, h => by
    unfold Rising at ha hb
    rw [List.pairwise_cons] at ha hb
    have e : x = y := by
      rcases List.mem_cons.1 ((h x).1 (by simp)) with e | hx
      · exact e
      · rcases List.mem_cons.1 ((h y).2 (by simp)) with e | hy
        · exact e.symm
        · have h1 := hb.1 x hx
          have h2 := ha.1 y hy
          omega
    subst e
    have t : a = b := rising_one ha.2 hb.2 fun z => by
      constructor
      · intro hz
        rcases List.mem_cons.1 ((h z).1 (by simp [hz])) with rfl | g
        · exact absurd (ha.1 z hz) (by omega)
        · exact g
      · intro hz
        rcases List.mem_cons.1 ((h z).2 (by simp [hz])) with rfl | g
        · exact absurd (hb.1 z hz) (by omega)
        · exact g
    rw [t]
theorem level_mem {l : List Hit} {a : Adr} {b : Int} {y : Hit} : y ∈ level l a b ↔ y ∈ l ∧ y.n.n = b ∧ hasN y.n a = true := by
  unfold level
  rw [List.mem_filter, Bool.and_eq_true, beq_iff_eq]
theorem cover_mem {l : List Hit} {a : Adr} (hl : ∀ x ∈ l, Ok x.n) {y : Hit} : y ∈ cover l a ↔ y ∈ l ∧ hasN y.n a = true := by
  unfold cover
  rw [List.mem_flatMap]
  constructor
  · rintro ⟨b, _, h⟩
    have := level_mem.1 h
    exact ⟨this.1, this.2.2⟩
  · rintro ⟨h, g⟩
    have h1 := (hl y h).made
    have hb := bitsA_v6 (has_parts g).2.2
    exact ⟨y.n.n.toNat, List.mem_range.2 (by omega), level_mem.2 ⟨h, by omega, g⟩⟩
theorem has_net {m n : Net} {a : Adr} (hm : hasN m a = true) (hn : hasN n a = true) (e : m.n = n.n) : m = n := by
  unfold hasN at hm hn
  rw [Bool.and_eq_true, sameN_iff] at hm hn
  rw [← hm.2, ← hn.2, e]
theorem cover_rising {l : List Hit} {a : Adr} (hl : Sorted l) : Rising (cover l a) := by
  unfold Rising cover
  rw [List.pairwise_flatMap]
  refine ⟨fun b _ => ?_, List.Pairwise.imp (fun {b c} hbc x hx y hy => ?_) List.pairwise_lt_range⟩
  · have hp : (level l a b).Pairwise fun x y => cmpN x.n y.n < 0 := List.Pairwise.sublist List.filter_sublist hl
    refine List.Pairwise.imp_of_mem (fun {x y} hx hy h => ?_) hp
    have h1 := level_mem.1 hx
    have h2 := level_mem.1 hy
    have e := has_net h1.2.2 h2.2.2 (h1.2.1.trans h2.2.1.symm)
    rw [e, (cmpN_zero _ _).2 rfl] at h
    omega
  · have h1 := level_mem.1 hx
    have h2 := level_mem.1 hy
    omega
theorem Tri.over_cover {t : Tri} {l : List Hit} {a : Adr} (ha : a.ok) (g : t.good) (hl : Sorted l) (hok : ∀ x ∈ l, Ok x.n) (h : ∀ y, hasN y.n a = true → (y ∈ t.list ↔ y ∈ l)) : t.over a = cover l a := by
  refine rising_one (over_rising ha g) (cover_rising hl) fun y => ?_
  rw [over_mem ha g, cover_mem hok]
  exact ⟨fun ⟨h1, h2⟩ => ⟨(h y h2).1 h1, h2⟩, fun ⟨h1, h2⟩ => ⟨(h y h2).2 h1, h2⟩⟩
/-! One subnet's number. -/
def pick (n : Net) (s : Int × Bool) (h : Hit) : Int × Bool := if sameN h.n n then (h.v, true) else s
theorem pick_none {n : Net} : ∀ {l : List Hit} (s : Int × Bool), (∀ y ∈ l, y.n ≠ n) → l.foldl (pick n) s = s
  | [], _, _ => rfl
  | x :: l, s, h => by
    have : pick n s x = s := by
      unfold pick
      rw [if_neg fun e => h x (by simp) ((sameN_iff _ _).1 e)]
    rw [List.foldl_cons, this, pick_none s fun y hy => h y (by simp [hy])]
theorem pick_one {n : Net} {h : Hit} : ∀ {l : List Hit} (s : Int × Bool), h ∈ l → h.n = n → (∀ y ∈ l, y.n = n → y = h) → l.foldl (pick n) s = (h.v, true)
  | [], _, hm, _, _ => by simp at hm
  | x :: l, s, hm, e, hu => by
    rw [List.foldl_cons]
    by_cases hl : h ∈ l
    · exact pick_one _ hl e fun y hy => hu y (by simp [hy])
    · have hx : x = h := by
        rcases List.mem_cons.1 hm with rfl | hm
        · rfl
        · exact absurd hm hl
      have : pick n s x = (h.v, true) := by
        unfold pick
        rw [hx, if_pos ((sameN_iff _ _).2 e)]
      rw [this, pick_none]
      intro y hy ey
      exact hl (by rw [← hu y (by simp [hy]) ey]; exact hy)
theorem sorted_unlike {l : List Hit} (h : Sorted l) {x y : Hit} (hx : x ∈ l) (hy : y ∈ l) (e : x.n = y.n) : x = y := by
  obtain ⟨i, hi, rfl⟩ := List.getElem_of_mem hx
  obtain ⟨j, hj, rfl⟩ := List.getElem_of_mem hy
  unfold Sorted at h
  rw [List.pairwise_iff_getElem] at h
  rcases Nat.lt_trichotomy i j with g | g | g
  · have := h i j hi hj g
    rw [e, (cmpN_zero _ _).2 rfl] at this
    omega
  · subst g; rfl
  · have := h j i hj hi g
    rw [e, (cmpN_zero _ _).2 rfl] at this
    omega
theorem found_mem {l : List Hit} (hs : Sorted l) {n : Net} {h : Hit} (hm : h ∈ l) (e : h.n = n) : found l n = some h := by
  unfold found
  cases hf : l.find? fun h => sameN h.n n with
  | none =>
    have := List.find?_eq_none.1 hf h hm
    rw [(sameN_iff _ _).2 e] at this
    simp at this
  | some x =>
    have h1 := List.mem_of_find?_eq_some hf
    have h2 := (sameN_iff x.n n).1 (List.find?_some (p := fun h : Hit => sameN h.n n) hf)
    rw [sorted_unlike hs h1 hm (h2.trans e.symm)]
theorem found_out {l : List Hit} {n : Net} (h : ∀ y ∈ l, y.n ≠ n) : found l n = none :=
  found_none fun i hi => by
    cases hs : sameN l[i].n n
    · rfl
    · exact absurd ((sameN_iff _ _).1 hs) (h _ (List.getElem_mem hi))
theorem Tri.over_pick {t : Tri} {l : List Hit} {n : Net} (hn : n.ok) (g : t.good) (hl : Sorted l) (hok : ∀ x ∈ l, Ok x.n) (h : ∀ y, y.n = n → (y ∈ t.list ↔ y ∈ l)) : (t.over n.a).foldl (pick n) (0, false) = (getV l n, getB l n) := by
  unfold getV getB
  by_cases hx : ∃ y ∈ l, y.n = n
  · obtain ⟨y, hy, e⟩ := hx
    have hr : hasN y.n n.a = true := by rw [e]; have := (hok y hy).right; rw [e] at this; exact this
    have hm : y ∈ t.over n.a := (over_mem hn.1 g).2 ⟨(h y e).2 hy, hr⟩
    rw [pick_one _ hm e fun z hz ez => sorted_unlike (Tri.sorted g) ((over_mem hn.1 g).1 hz).1 ((h y e).2 hy) (ez.trans e.symm), found_mem hl hy e]
    rfl
  · have hx' : ∀ y ∈ l, y.n ≠ n := fun y hy e => hx ⟨y, hy, e⟩
    rw [pick_none _ fun y hy e => hx' y ((h y e).1 ((over_mem hn.1 g).1 hy).1) e, found_out hx']
    rfl
/-! What is put in. -/
def Tri.put (n : Net) (v : Int) : Tri → Tri
  | .leaf => .node n true v .leaf .leaf
  | .node m i w z o =>
    if withinN n m then
      if m = n then .node n true v z o
      else if bitA n.a m.n = 0 then .node m i w (z.put n v) o else .node m i w z (o.put n v)
    else if sharedN n m = n then
      if bitA m.a (sharedN n m).n = 0 then .node n true v (.node m i w z o) .leaf else .node n true v .leaf (.node m i w z o)
    else if bitA m.a (sharedN n m).n = 0 then .node (sharedN n m) false 0 (.node m i w z o) (.node n true v .leaf .leaf)
    else .node (sharedN n m) false 0 (.node n true v .leaf .leaf) (.node m i w z o)
def Tri.kind (b : Bool) (t : Tri) : Prop := t.each fun m => m.a.v6 = b
theorem Tri.put_each {n : Net} {v : Int} (hn : Ok n) {P : Net → Prop} (hp : P n) (hs : ∀ m, Ok m → P m → P (sharedN n m)) : ∀ {t : Tri}, t.good → t.each P → (t.put n v).each P
  | .leaf, _, _ => ⟨hp, trivial, trivial⟩
  | .node m i w z o, g, h => by
    obtain ⟨hm, _, _, _, g0, g1⟩ := g
    have hsm := hs m hm h.1
    unfold Tri.put
    split
    · split
      · exact ⟨hp, h.2⟩
      · split
        · exact ⟨h.1, put_each hn hp hs g0 h.2.1, h.2.2⟩
        · exact ⟨h.1, h.2.1, put_each hn hp hs g1 h.2.2⟩
    · split
      · split
        · exact ⟨hp, h, trivial⟩
        · exact ⟨hp, trivial, h⟩
      · split
        · exact ⟨hsm, h, hp, trivial, trivial⟩
        · exact ⟨hsm, ⟨hp, trivial, trivial⟩, h⟩
theorem Tri.put_sub {n q : Net} {v : Int} {b : Nat} (hn : Ok n) (hq : Ok q) (h : Sub q b n) {t : Tri} (g : t.good) (ht : t.each (Sub q b)) : (t.put n v).each (Sub q b) :=
  put_each hn h (fun _ hm hmm => sub_shared hq hn hm h hmm) g ht
theorem Tri.each_sub {q m : Net} {b : Nat} (hq : Ok q) (h : Sub q b m) {i : Bool} {w : Int} {z o : Tri} (h0 : z.each (Sub m 0)) (h1 : o.each (Sub m 1)) : (Tri.node m i w z o).each (Sub q b) :=
  ⟨h, Tri.each_imp h0 fun _ g => sub_sub hq h g, Tri.each_imp h1 fun _ g => sub_sub hq h g⟩
theorem Tri.put_kind {n : Net} {v : Int} {b : Bool} (hn : Ok n) (hv : n.a.v6 = b) {t : Tri} (g : t.good) (h : t.kind b) : (t.put n v).kind b := by
  refine put_each hn hv (fun m _ hm => ?_) g h
  rw [(shared_bits hn (hv.trans hm.symm)).1, hv]
theorem bit_cast {n m : Net} {b : Nat} (hm : Ok m) (hn : Ok n) (h : Sub m b n) : bitA n.a m.n = (b : Int) := by
  rw [bitA_at hn hm.made.2.1 h.2.1, h.2.2.2]
theorem Tri.put_good {n : Net} {v : Int} (hn : Ok n) (hv : -9223372036854775808 ≤ v ∧ v ≤ 9223372036854775807) : ∀ {t : Tri}, t.good → t.kind n.a.v6 → (t.put n v).good
  | .leaf, _, _ => ⟨hn, hv, trivial, trivial, trivial, trivial⟩
  | .node m i w z o, g, hk => by
    have g' := g
    obtain ⟨hm, hw, h0, h1, g0, g1⟩ := g
    have kk : n.a.v6 = m.a.v6 := hk.1.symm
    unfold Tri.put
    split
    · rename_i hin
      split
      · rename_i e
        subst e
        exact ⟨hn, hv, h0, h1, g0, g1⟩
      · rename_i hne
        have hs := within_sub hn hm hin hne
        have hb := bit_cast hm hn hs
        split
        · rename_i e
          rw [hb] at e
          have e' : bitN n.a m.n.toNat = 0 := by omega
          rw [e'] at hs
          exact ⟨hm, hw, put_sub hn hm hs g0 h0, h1, put_good hn hv g0 hk.2.1, g1⟩
        · rename_i e
          rw [hb] at e
          have e' : bitN n.a m.n.toNat = 1 := by have := bitN_two n.a m.n.toNat; omega
          rw [e'] at hs
          exact ⟨hm, hw, h0, put_sub hn hm hs g1 h1, g0, put_good hn hv g1 hk.2.2⟩
    · rename_i hin
      have hlt := shared_less hn hm kk (by simpa using hin)
      have hsm := shared_sub hn kk hlt
      have hS := (shared_is (n := m) hn).2
      have hb := bit_cast hS hm hsm
      have h01 := bitN_two m.a (commN n m)
      split
      · rename_i e
        split
        · rename_i eb
          rw [hb] at eb
          rw [show bitN m.a (commN n m) = 0 from by omega, e] at hsm
          exact ⟨hn, hv, each_sub hn hsm h0 h1, trivial, g', trivial⟩
        · rename_i eb
          rw [hb] at eb
          rw [show bitN m.a (commN n m) = 1 from by omega, e] at hsm
          exact ⟨hn, hv, trivial, each_sub hn hsm h0 h1, trivial, g'⟩
      · rename_i e
        obtain ⟨hlt2, hsn⟩ := shared_sub' hn kk e
        have hne := shared_part hlt2 hlt
        have n01 := bitN_two n.a (commN n m)
        split
        · rename_i eb
          rw [hb] at eb
          rw [show bitN m.a (commN n m) = 0 from by omega] at hsm
          rw [show bitN n.a (commN n m) = 1 from by omega] at hsn
          exact ⟨hS, by decide, each_sub hS hsm h0 h1, ⟨hsn, trivial, trivial⟩, g', hn, hv, trivial, trivial, trivial, trivial⟩
        · rename_i eb
          rw [hb] at eb
          rw [show bitN m.a (commN n m) = 1 from by omega] at hsm
          rw [show bitN n.a (commN n m) = 0 from by omega] at hsn
          exact ⟨hS, by decide, ⟨hsn, trivial, trivial⟩, each_sub hS hsm h0 h1, ⟨hn, hv, trivial, trivial, trivial, trivial⟩, g'⟩
theorem sub_ne {n m : Net} {b : Nat} (h : Sub n b m) : m ≠ n := fun e => by have := h.2.1; rw [e] at this; omega
theorem Tri.put_mem {n : Net} {v : Int} {y : Hit} (hn : Ok n) : ∀ {t : Tri}, t.good → t.kind n.a.v6 → (y ∈ (t.put n v).list ↔ y = ⟨n, v⟩ ∨ (y ∈ t.list ∧ y.n ≠ n))
  | .leaf, _, _ => by simp [Tri.put, Tri.list]
  | .node m i w z o, g, hk => by
    have g' := g
    obtain ⟨hm, hw, h0, h1, g0, g1⟩ := g
    have kk : n.a.v6 = m.a.v6 := hk.1.symm
    unfold Tri.put
    split
    · rename_i hin
      split
      · rename_i e
        subst e
        rw [mem_node, mem_node]
        constructor
        · rintro (⟨_, h⟩ | h | h)
          · exact Or.inl h
          · exact Or.inr ⟨Or.inr (Or.inl h), sub_ne (mem_each h0 h)⟩
          · exact Or.inr ⟨Or.inr (Or.inr h), sub_ne (mem_each h1 h)⟩
        · rintro (h | ⟨⟨_, h⟩ | h | h, hne⟩)
          · exact Or.inl ⟨rfl, h⟩
          · rw [h] at hne; exact absurd rfl hne
          · exact Or.inr (Or.inl h)
          · exact Or.inr (Or.inr h)
      · rename_i hne
        have hs := within_sub hn hm hin hne
        have hb := bit_cast hm hn hs
        have root : y = ⟨m, w⟩ → y.n ≠ n := fun e => by rw [e]; exact hne
        have other : ∀ b, bitN n.a m.n.toNat ≠ b → Sub m b y.n → y.n ≠ n := fun b hb hs e => by rw [e] at hs; exact hb hs.2.2.2
        split
        · rename_i e
          rw [hb] at e
          have e' : bitN n.a m.n.toNat = 0 := by omega
          rw [mem_node, mem_node, put_mem hn g0 hk.2.1]
          constructor
          · rintro (h | (h | h) | h)
            · exact Or.inr ⟨Or.inl h, root h.2⟩
            · exact Or.inl h
            · exact Or.inr ⟨Or.inr (Or.inl h.1), h.2⟩
            · exact Or.inr ⟨Or.inr (Or.inr h), other 1 (by omega) (mem_each h1 h)⟩
          · rintro (h | ⟨h | h | h, g⟩)
            · exact Or.inr (Or.inl (Or.inl h))
            · exact Or.inl h
            · exact Or.inr (Or.inl (Or.inr ⟨h, g⟩))
            · exact Or.inr (Or.inr h)
        · rename_i e
          rw [hb] at e
          have e' : bitN n.a m.n.toNat = 1 := by have := bitN_two n.a m.n.toNat; omega
          rw [mem_node, mem_node, put_mem hn g1 hk.2.2]
          constructor
          · rintro (h | h | (h | h))
            · exact Or.inr ⟨Or.inl h, root h.2⟩
            · exact Or.inr ⟨Or.inr (Or.inl h), other 0 (by omega) (mem_each h0 h)⟩
            · exact Or.inl h
            · exact Or.inr ⟨Or.inr (Or.inr h.1), h.2⟩
          · rintro (h | ⟨h | h | h, g⟩)
            · exact Or.inr (Or.inr (Or.inl h))
            · exact Or.inl h
            · exact Or.inr (Or.inl h)
            · exact Or.inr (Or.inr (Or.inr ⟨h, g⟩))
    · rename_i hin
      have hlt := shared_less hn hm kk (by simpa using hin)
      have hsm := shared_sub hn kk hlt
      have hS := (shared_is (n := m) hn).2
      have away : y ∈ (Tri.node m i w z o).list → y.n ≠ n := by
        intro hy e
        have hh : hasN m n.a = true ∧ m.n ≤ n.n := by
          rcases mem_node.1 hy with ⟨_, h⟩ | h | h
          · rw [h] at e
            simp only [] at e
            rw [e]; exact ⟨hn.right, Int.le_refl _⟩
          · have hs := mem_each h0 h
            rw [e] at hs
            exact ⟨sub_has hm hn hs, Int.le_of_lt hs.2.1⟩
          · have hs := mem_each h1 h
            rw [e] at hs
            exact ⟨sub_has hm hn hs, Int.le_of_lt hs.2.1⟩
        apply hin
        unfold withinN
        rw [hn.right, hh.1, decide_eq_true hh.2]; rfl
      have all : y ∈ (Tri.node m i w z o).list ↔ y ∈ (Tri.node m i w z o).list ∧ y.n ≠ n := ⟨fun h => ⟨h, away h⟩, fun h => h.1⟩
      rw [← all]
      split
      · split
        · rw [mem_node]; simp [Tri.list]
        · rw [mem_node]; simp [Tri.list]
      · split
        · rw [mem_node (i := false), mem_node (n := n)]
          simp only [Bool.false_eq_true, false_and, false_or, true_and, Tri.list, List.not_mem_nil, or_false]
          exact Or.comm
        · rw [mem_node (i := false), mem_node (n := n)]
          simp only [Bool.false_eq_true, false_and, false_or, true_and, Tri.list, List.not_mem_nil, or_false]
/-! What is taken out. -/
def Tri.isLeaf : Tri → Bool
  | .leaf => true
  | .node _ _ _ _ _ => false
def Tri.need (n : Net) (i : Bool) (v : Int) (z o : Tri) : Tri := if i || (!z.isLeaf && !o.isLeaf) then .node n i v z o else if z.isLeaf then o else z
theorem Tri.leaf_is {t : Tri} (h : t.isLeaf = true) : t = .leaf := by cases t <;> simp [Tri.isLeaf] at h; rfl
theorem Tri.need_list (n : Net) (i : Bool) (v : Int) (z o : Tri) : (Tri.need n i v z o).list = (Tri.node n i v z o).list := by
  unfold Tri.need
  split
  · rfl
  · rename_i h
    rw [Bool.or_eq_true, Bool.and_eq_true, not_or] at h
    have hi : i = false := by simpa using h.1
    subst hi
    split
    · rename_i hz
      rw [leaf_is hz]; simp [Tri.list]
    · rename_i hz
      have : o.isLeaf = true := by
        cases ho : o.isLeaf
        · exact absurd ⟨by simpa using hz, by rw [ho]; rfl⟩ h.2
        · rfl
      rw [leaf_is this]; simp [Tri.list]
theorem Tri.need_each {P : Net → Prop} {n : Net} {i : Bool} {v : Int} {z o : Tri} (h : (Tri.node n i v z o).each P) : (Tri.need n i v z o).each P := by
  unfold Tri.need
  split
  · exact h
  · split
    · exact h.2.2
    · exact h.2.1
theorem Tri.need_good {n : Net} {i : Bool} {v : Int} {z o : Tri} (h : (Tri.node n i v z o).good) : (Tri.need n i v z o).good := by
  unfold Tri.need
  split
  · exact h
  · split
    · exact h.2.2.2.2.2
    · exact h.2.2.2.2.1
def Tri.del (n : Net) : Tri → Tri
  | .leaf => .leaf
  | .node m i w z o =>
    if m = n then Tri.need m false 0 z o
    else if bitA n.a m.n = 0 then Tri.need m i w (z.del n) o else Tri.need m i w z (o.del n)
theorem Tri.del_each {P : Net → Prop} {n : Net} : ∀ {t : Tri}, t.each P → (t.del n).each P
  | .leaf, _ => trivial
  | .node m i w z o, h => by
    unfold Tri.del
    split
    · exact need_each h
    · split
      · exact need_each ⟨h.1, del_each h.2.1, h.2.2⟩
      · exact need_each ⟨h.1, h.2.1, del_each h.2.2⟩
theorem Tri.del_good {n : Net} : ∀ {t : Tri}, t.good → (t.del n).good
  | .leaf, _ => trivial
  | .node m i w z o, h => by
    obtain ⟨hm, hw, h0, h1, g0, g1⟩ := h
    unfold Tri.del
    split
    · exact need_good ⟨hm, by decide, h0, h1, g0, g1⟩
    · split
      · exact need_good ⟨hm, hw, del_each h0, h1, del_good g0, g1⟩
      · exact need_good ⟨hm, hw, h0, del_each h1, g0, del_good g1⟩
/-- One that is in a tree is in the half that its bit tells. -/
theorem Tri.in_half {n : Net} {m : Net} {i : Bool} {w : Int} {z o : Tri} (g : (Tri.node m i w z o).good) (hne : m ≠ n) (h : ∃ y ∈ (Tri.node m i w z o).list, y.n = n) : Ok n ∧ ((bitA n.a m.n = 0 ∧ ∃ y ∈ z.list, y.n = n) ∨ (bitA n.a m.n = 1 ∧ ∃ y ∈ o.list, y.n = n)) := by
  obtain ⟨y, hy, rfl⟩ := h
  obtain ⟨hm, _, h0, h1, g0, g1⟩ := g
  rcases mem_node.1 hy with ⟨_, h⟩ | h | h
  · rw [h] at hne; exact absurd rfl hne
  · have hk := mem_ok g0 h
    exact ⟨hk, Or.inl ⟨bit_cast hm hk (mem_each h0 h), y, h, rfl⟩⟩
  · have hk := mem_ok g1 h
    exact ⟨hk, Or.inr ⟨bit_cast hm hk (mem_each h1 h), y, h, rfl⟩⟩
theorem Tri.del_mem {n : Net} {y : Hit} : ∀ {t : Tri}, t.good → (∃ y ∈ t.list, y.n = n) → (y ∈ (t.del n).list ↔ y ∈ t.list ∧ y.n ≠ n)
  | .leaf, _, h => by obtain ⟨y, hy, _⟩ := h; simp [Tri.list] at hy
  | .node m i w z o, g, h => by
    have g' := g
    obtain ⟨hm, hw, h0, h1, g0, g1⟩ := g
    unfold Tri.del
    split
    · rename_i e
      subst e
      rw [need_list, mem_node, mem_node]
      constructor
      · rintro (h | h | h)
        · cases h.1
        · exact ⟨Or.inr (Or.inl h), sub_ne (mem_each h0 h)⟩
        · exact ⟨Or.inr (Or.inr h), sub_ne (mem_each h1 h)⟩
      · rintro ⟨h | h | h, hne⟩
        · rw [h.2] at hne; exact absurd rfl hne
        · exact Or.inr (Or.inl h)
        · exact Or.inr (Or.inr h)
    · rename_i hne
      obtain ⟨hn, hh⟩ := in_half g' hne h
      have root : y = ⟨m, w⟩ → y.n ≠ n := fun e => by rw [e]; exact hne
      have other : ∀ b : Nat, bitA n.a m.n ≠ b → Ok y.n → Sub m b y.n → y.n ≠ n := fun b hb hk hs e => by
        rw [e] at hs hk; exact hb (bit_cast hm hk hs)
      rcases hh with ⟨hb, hz⟩ | ⟨hb, ho⟩
      · rw [if_pos hb, need_list, mem_node, mem_node, del_mem g0 hz]
        constructor
        · rintro (h | h | h)
          · exact ⟨Or.inl h, root h.2⟩
          · exact ⟨Or.inr (Or.inl h.1), h.2⟩
          · exact ⟨Or.inr (Or.inr h), other 1 (by omega) (mem_ok g1 h) (mem_each h1 h)⟩
        · rintro ⟨h | h | h, g⟩
          · exact Or.inl h
          · exact Or.inr (Or.inl ⟨h, g⟩)
          · exact Or.inr (Or.inr h)
      · rw [if_neg (by omega), need_list, mem_node, mem_node, del_mem g1 ho]
        constructor
        · rintro (h | h | h)
          · exact ⟨Or.inl h, root h.2⟩
          · exact ⟨Or.inr (Or.inl h), other 0 (by omega) (mem_ok g0 h) (mem_each h0 h)⟩
          · exact ⟨Or.inr (Or.inr h.1), h.2⟩
        · rintro ⟨h | h | h, g⟩
          · exact Or.inl h
          · exact Or.inr (Or.inl h)
          · exact Or.inr (Or.inr ⟨h, g⟩)
/-! Two trees, one for each kind. -/
def both (s t : Tri) : List Hit := s.list ++ t.list
structure Pair (s t : Tri) : Prop where
  g0 : s.good
  g1 : t.good
  k0 : s.kind false
  k1 : t.kind true
theorem Pair.leaf : Pair .leaf .leaf := ⟨trivial, trivial, trivial, trivial⟩
theorem Pair.sorted {s t : Tri} (h : Pair s t) : Sorted (both s t) := by
  have h0 := (Tri.sorted h.g0)
  have h1 := (Tri.sorted h.g1)
  unfold Sorted both at *
  rw [List.pairwise_append]
  exact ⟨h0, h1, fun x hx y hy => kind_less (Tri.mem_each h.k0 hx) (Tri.mem_each h.k1 hy)⟩
theorem Pair.ok {s t : Tri} (h : Pair s t) : ∀ x ∈ both s t, Ok x.n := fun x hx => by
  rcases List.mem_append.1 hx with hx | hx
  · exact Tri.mem_ok h.g0 hx
  · exact Tri.mem_ok h.g1 hx
def side (b : Bool) (s t : Tri) : Tri := if b then t else s
theorem Pair.side {s t : Tri} (h : Pair s t) (b : Bool) : (side b s t).good ∧ (Tr.side b s t).kind b := by
  cases b
  · exact ⟨h.g0, h.k0⟩
  · exact ⟨h.g1, h.k1⟩
theorem Pair.side_mem {s t : Tri} (h : Pair s t) {y : Hit} {b : Bool} (hy : y.n.a.v6 = b) : y ∈ (Tr.side b s t).list ↔ y ∈ both s t := by
  unfold both
  rw [List.mem_append]
  cases b
  · exact ⟨Or.inl, fun g => g.resolve_right fun g => by have := Tri.mem_each h.k1 g; rw [hy] at this; cases this⟩
  · exact ⟨Or.inr, fun g => g.resolve_left fun g => by have := Tri.mem_each h.k0 g; rw [hy] at this; cases this⟩
theorem Pair.cover {s t : Tri} (h : Pair s t) {a : Adr} (ha : a.ok) : (Tr.side a.v6 s t).over a = Tr.cover (both s t) a :=
  Tri.over_cover ha (h.side _).1 h.sorted h.ok fun y hy => h.side_mem (has_parts hy).2.2
theorem Pair.look {s t : Tri} (h : Pair s t) {n : Net} (hn : n.ok) : ((Tr.side n.a.v6 s t).over n.a).foldl (pick n) (0, false) = (getV (both s t) n, getB (both s t) n) :=
  Tri.over_pick hn (h.side _).1 h.sorted h.ok fun y hy => h.side_mem (by rw [hy])
theorem getB_iff {l : List Hit} {n : Net} : getB l n = true ↔ ∃ y ∈ l, y.n = n := by
  unfold getB found
  rw [Option.isSome_iff_exists]
  constructor
  · rintro ⟨x, hx⟩
    exact ⟨x, List.mem_of_find?_eq_some hx, (sameN_iff x.n n).1 (List.find?_some (p := fun h : Hit => sameN h.n n) hx)⟩
  · rintro ⟨y, hy, e⟩
    cases hf : l.find? fun h => sameN h.n n with
    | none =>
      have := List.find?_eq_none.1 hf y hy
      rw [(sameN_iff _ _).2 e] at this
      simp at this
    | some x => exact ⟨x, rfl⟩
theorem cut_none {l : List Hit} {n : Net} (h : getB l n = false) : cut l n = l := by
  unfold cut
  rw [List.filter_eq_self]
  intro y hy
  cases hs : sameN y.n n
  · rfl
  · have : getB l n = true := getB_iff.2 ⟨y, hy, (sameN_iff _ _).1 hs⟩
    rw [h] at this; cases this
theorem cut_one {n : Net} : ∀ {l : List Hit}, Sorted l → getB l n = true → (cut l n).length + 1 = l.length
  | [], _, h => by obtain ⟨y, hy, _⟩ := getB_iff.1 h; simp at hy
  | x :: l, hs, h => by
    have hs' := hs
    unfold Sorted at hs
    rw [List.pairwise_cons] at hs
    by_cases e : x.n = n
    · have : getB l n = false := by
        cases hg : getB l n
        · rfl
        · obtain ⟨y, hy, ey⟩ := getB_iff.1 hg
          have := hs.1 y hy
          rw [e, ey, (cmpN_zero _ _).2 rfl] at this
          omega
      have e2 : cut (x :: l) n = cut l n := by unfold cut; rw [List.filter_cons, (sameN_iff _ _).2 e]; rfl
      rw [e2, cut_none this]; rfl
    · have : getB l n = true := by
        obtain ⟨y, hy, ey⟩ := getB_iff.1 h
        rcases List.mem_cons.1 hy with rfl | hy
        · exact absurd ey e
        · exact getB_iff.2 ⟨y, hy, ey⟩
      have e2 : cut (x :: l) n = x :: cut l n := by
        have : sameN x.n n = false := by
          cases hx : sameN x.n n
          · rfl
          · exact absurd ((sameN_iff _ _).1 hx) e
        unfold cut; rw [List.filter_cons, this]; rfl
      rw [e2, List.length_cons, cut_one hs.2 this]; rfl
theorem withH_size {l : List Hit} (hs : Sorted l) {n : Net} (v : Int) (hr : rightN n = true) : (withH l n v).length = if getB l n then l.length else l.length + 1 := by
  unfold withH
  rw [if_pos hr, putIn_len]
  cases hb : getB l n
  · rw [cut_none hb]; simp
  · rw [cut_one hs hb]; simp
theorem Pair.put {s t : Tri} (h : Pair s t) {n : Net} {v : Int} (hn : Ok n) (hv : -9223372036854775808 ≤ v ∧ v ≤ 9223372036854775807) :
    (n.a.v6 = false → Pair (s.put n v) t ∧ both (s.put n v) t = withH (both s t) n v) ∧ (n.a.v6 = true → Pair s (t.put n v) ∧ both s (t.put n v) = withH (both s t) n v) := by
  constructor
  · intro e
    have kd : s.kind n.a.v6 := by rw [e]; exact h.k0
    have hp : Pair (s.put n v) t := ⟨Tri.put_good hn hv h.g0 kd, h.g1, Tri.put_kind hn e h.g0 h.k0, h.k1⟩
    refine ⟨hp, sorted_one hp.sorted (withH_sorted h.sorted n v) fun y => ?_⟩
    unfold withH
    rw [if_pos hn.right, putIn_mem, cut_mem]
    unfold both
    rw [List.mem_append, List.mem_append, Tri.put_mem hn h.g0 kd]
    have : y ∈ t.list → y.n ≠ n := fun hy e2 => by
      have := Tri.mem_each h.k1 hy
      rw [e2, e] at this; cases this
    constructor
    · rintro ((g | g) | g)
      · exact Or.inl g
      · exact Or.inr ⟨Or.inl g.1, g.2⟩
      · exact Or.inr ⟨Or.inr g, this g⟩
    · rintro (g | ⟨g | g, k⟩)
      · exact Or.inl (Or.inl g)
      · exact Or.inl (Or.inr ⟨g, k⟩)
      · exact Or.inr g
  · intro e
    have kd : t.kind n.a.v6 := by rw [e]; exact h.k1
    have hp : Pair s (t.put n v) := ⟨h.g0, Tri.put_good hn hv h.g1 kd, h.k0, Tri.put_kind hn e h.g1 h.k1⟩
    refine ⟨hp, sorted_one hp.sorted (withH_sorted h.sorted n v) fun y => ?_⟩
    unfold withH
    rw [if_pos hn.right, putIn_mem, cut_mem]
    unfold both
    rw [List.mem_append, List.mem_append, Tri.put_mem hn h.g1 kd]
    have : y ∈ s.list → y.n ≠ n := fun hy e2 => by
      have := Tri.mem_each h.k0 hy
      rw [e2, e] at this; cases this
    constructor
    · rintro (g | g | g)
      · exact Or.inr ⟨Or.inl g, this g⟩
      · exact Or.inl g
      · exact Or.inr ⟨Or.inr g.1, g.2⟩
    · rintro (g | ⟨g | g, k⟩)
      · exact Or.inr (Or.inl g)
      · exact Or.inl g
      · exact Or.inr (Or.inr ⟨g, k⟩)
theorem Pair.del {s t : Tri} (h : Pair s t) {n : Net} (hx : getB (both s t) n = true) :
    (n.a.v6 = false → Pair (s.del n) t ∧ both (s.del n) t = cut (both s t) n ∧ ∃ y ∈ s.list, y.n = n) ∧ (n.a.v6 = true → Pair s (t.del n) ∧ both s (t.del n) = cut (both s t) n ∧ ∃ y ∈ t.list, y.n = n) := by
  obtain ⟨x, hx, ex⟩ := getB_iff.1 hx
  constructor
  · intro e
    have hy : ∃ y ∈ s.list, y.n = n := ⟨x, (h.side_mem (b := false) (by rw [ex, e])).2 hx, ex⟩
    have hp : Pair (s.del n) t := ⟨Tri.del_good h.g0, h.g1, Tri.del_each h.k0, h.k1⟩
    refine ⟨hp, sorted_one hp.sorted (cut_sorted h.sorted n) fun y => ?_, hy⟩
    rw [cut_mem]
    unfold both
    rw [List.mem_append, List.mem_append, Tri.del_mem h.g0 hy]
    have : y ∈ t.list → y.n ≠ n := fun hy e2 => by
      have := Tri.mem_each h.k1 hy
      rw [e2, e] at this; cases this
    constructor
    · rintro (g | g)
      · exact ⟨Or.inl g.1, g.2⟩
      · exact ⟨Or.inr g, this g⟩
    · rintro ⟨g | g, k⟩
      · exact Or.inl ⟨g, k⟩
      · exact Or.inr g
  · intro e
    have hy : ∃ y ∈ t.list, y.n = n := ⟨x, (h.side_mem (b := true) (by rw [ex, e])).2 hx, ex⟩
    have hp : Pair s (t.del n) := ⟨h.g0, Tri.del_good h.g1, h.k0, Tri.del_each h.k1⟩
    refine ⟨hp, sorted_one hp.sorted (cut_sorted h.sorted n) fun y => ?_, hy⟩
    rw [cut_mem]
    unfold both
    rw [List.mem_append, List.mem_append, Tri.del_mem h.g1 hy]
    have : y ∈ s.list → y.n ≠ n := fun hy e2 => by
      have := Tri.mem_each h.k0 hy
      rw [e2, e] at this; cases this
    constructor
    · rintro (g | g)
      · exact ⟨Or.inl g, this g⟩
      · exact ⟨Or.inr g.1, g.2⟩
    · rintro ⟨g | g, k⟩
      · exact Or.inl g
      · exact Or.inr ⟨g, k⟩
end Go.Proofs.Ytgnpnmdndlodlaa.Tr
