/- Ends in plain words: an address and a port; texts and what is read of them; one order. -/
import Derived.Test.YtgnjbbohphoojaaMath
import Derived.Test.YtgnjbbohphoojaaRef06All
import Derived.Test.YtgnjbbohphoojaaCidrAll
import Derived.Deep.RegionWith
import Derived.Deep.RegionHeld3
import Derived.Deep.Draws
import Derived.Lib.Small
import Derived.Lib.IndexAny
namespace Go.Proofs.Ytgnjbbohphoojaa.En
set_option maxRecDepth 100000
open Dec Words V4 V6 Ad Ci
structure Endp where
  a : Adr
  n : Int
def Endp.ok (e : Endp) : Prop := e.a.ok ∧ -9223372036854775808 ≤ e.n ∧ e.n ≤ 9223372036854775807
def zeroE : Endp := ⟨⟨false, 0, 0⟩, 0⟩
def sameE (e f : Endp) : Bool := sameA e.a f.a && e.n == f.n
def rightE (e : Endp) : Bool := rightA e.a && (decide (1 ≤ e.n) && decide (e.n ≤ 65535))
def hostT (a : Adr) : List UInt8 := if a.v6 then 91 :: (textA a ++ [93]) else textA a
def textE (e : Endp) : List UInt8 := if rightE e then hostT e.a ++ 58 :: text e.n else [45]
/-- The place behind the last colon; 0 where there is none. -/
def at58 (l : List UInt8) : Nat := l.length - (lastP l).length
def head58 (l : List UInt8) : List UInt8 := l.take (at58 l - 1)
def framed (u : List UInt8) : Bool := u.head? == some 91 && u.getLast? == some 93
def inner (u : List UInt8) : List UInt8 := if framed u then (u.drop 1).dropLast else u
def hostB (u : List UInt8) : Bool := ((inner u).contains 58 == framed u) && okA (inner u)
def portB (v : List UInt8) : Bool := parB v 65535 && decide (1 ≤ parN v 65535)
def okE (l : List UInt8) : Bool := decide (at58 l ≠ 0) && (hostB (head58 l) && portB (lastP l))
def parseE (l : List UInt8) : Endp := if okE l then ⟨parseA (inner (head58 l)), parN (lastP l) 65535⟩ else zeroE
def cmpI (m n : Int) : Int := if m < n then -1 else if n < m then 1 else 0
def cmpE (e f : Endp) : Int := if cmpA e.a f.a = 0 then cmpI e.n f.n else cmpA e.a f.a
theorem end_eq {e f : Endp} (h1 : e.a = f.a) (h2 : e.n = f.n) : e = f := by
  obtain ⟨a, n⟩ := e; obtain ⟨b, m⟩ := f
  simp only at h1 h2
  rw [h1, h2]
theorem sameE_iff (e f : Endp) : sameE e f = true ↔ e = f := by
  unfold sameE
  rw [Bool.and_eq_true, sameA_iff, beq_iff_eq]
  exact ⟨fun h => end_eq h.1 h.2, fun h => by rw [h]; exact ⟨rfl, rfl⟩⟩
theorem rightE_iff (e : Endp) : rightE e = true ↔ rightA e.a = true ∧ 1 ≤ e.n ∧ e.n ≤ 65535 := by unfold rightE; simp
theorem at58_le (l : List UInt8) : at58 l ≤ l.length := by unfold at58; omega
theorem at_split {l : List UInt8} (h : at58 l ≠ 0) : l = head58 l ++ 58 :: lastP l ∧ (head58 l).length + 1 = at58 l := by
  obtain ⟨ps, e1, h1, h2⟩ := last_split l
  have hle := lastP_le l
  rcases h2 with ⟨_, h2⟩ | ⟨_, h2⟩
  · exfalso; apply h; unfold at58; rw [← h2]; omega
  · have hlen := congrArg List.length h2
    rw [List.length_append, List.length_cons] at hlen
    have ha : at58 l = (glue 58 ps).length + 1 := by unfold at58; omega
    have hh : head58 l = glue 58 ps := by
      unfold head58
      rw [ha, Nat.add_sub_cancel]
      conv => lhs; rw [h2]
      rw [List.take_append, List.take_of_length_le (Nat.le_refl _)]; simp
    rw [hh, ha]
    exact ⟨h2, rfl⟩
theorem lastP_self {v : List UInt8} (h : (58 : UInt8) ∉ v) : lastP v = v := by
  unfold lastP
  simp only [cut_none h, List.getLast_singleton]
theorem last_no58 (l : List UInt8) : (58 : UInt8) ∉ lastP l := by obtain ⟨_, _, h, _⟩ := last_split l; exact h
theorem at_mid (u : List UInt8) {v : List UInt8} (h : (58 : UInt8) ∉ v) : lastP (u ++ 58 :: v) = v ∧ at58 (u ++ 58 :: v) = u.length + 1 ∧ head58 (u ++ 58 :: v) = u := by
  have h1 : lastP (u ++ 58 :: v) = v := by rw [lastP_two, lastP_self h]
  have h2 : at58 (u ++ 58 :: v) = u.length + 1 := by unfold at58; rw [h1]; simp; omega
  refine ⟨h1, h2, ?_⟩
  unfold head58
  rw [h2, Nat.add_sub_cancel, List.take_append, List.take_of_length_le (Nat.le_refl _)]; simp
theorem text4_no91 (n : Nat) : (91 : UInt8) ∉ text4 n := by
  have hd : ∀ n : Nat, (91 : UInt8) ∉ text (n : Int) := fun n h => absurd (text_digit h) (by decide)
  have h0 := hd (n / 16777216 % 256)
  have h1 := hd (n / 65536 % 256)
  have h2 := hd (n / 256 % 256)
  have h3 := hd (n % 256)
  unfold text4 parts4
  generalize text ((n / 16777216 % 256 : Nat) : Int) = a at *
  generalize text ((n / 65536 % 256 : Nat) : Int) = b at *
  generalize text ((n / 256 % 256 : Nat) : Int) = c at *
  generalize text ((n % 256 : Nat) : Int) = d at *
  simp [glue, h0, h1, h2, h3]
theorem ok4_no91 {l : List UInt8} (h : ok4 l = true) : (91 : UInt8) ∉ l := by rw [← text4_num4 h]; exact text4_no91 _
theorem framed_mem {u : List UInt8} (h : framed u = true) : (91 : UInt8) ∈ u := by
  unfold framed at h
  rw [Bool.and_eq_true, beq_iff_eq] at h
  exact List.mem_of_head? h.1
theorem ok4_plain {u : List UInt8} (h : ok4 u = true) : framed u = false := by
  rw [← Bool.not_eq_true]; exact fun e => ok4_no91 h (framed_mem e)
/-- A text of IPv6 has a colon. -/
theorem ok6_has58 {l : List UInt8} (h : ok6 l = true) : (58 : UInt8) ∈ l := by
  by_cases h58 : (58 : UInt8) ∈ l
  · exact h58
  · exfalso
    have hg : gap l = none := gap_none.2 fun i ht => h58 (List.mem_of_getElem? ht.1)
    have hp : (parts l).length ≤ 1 := by
      unfold parts
      split
      · simp
      · rw [cut_none h58]; simp
    have hs := (spell_len (parts l)).2
    unfold ok6 groups at h
    rw [hg] at h
    simp only [] at h
    rw [if_neg (by rintro ⟨_, h8⟩; omega)] at h
    cases h
theorem host_four {u : List UInt8} (h : ok4 u = true) : hostB u = true ∧ parseA (inner u) = v4A (num4 u) := by
  have hf := ok4_plain h
  have hi : inner u = u := by unfold inner; rw [hf]; rfl
  refine ⟨?_, by rw [hi]; unfold parseA; rw [if_pos h]⟩
  unfold hostB okA
  rw [hi, hf, h]
  have := ok4_no58 h
  simp [this]
theorem host_six {u : List UInt8} (hf : framed u = true) (h : ok6 (inner u) = true) : hostB u = true ∧ parseA (inner u) = v6A (hi6 (inner u)) (lo6 (inner u)) := by
  have h4 : ok4 (inner u) = false := by
    rw [← Bool.not_eq_true]; intro e; rw [ok4_not_ok6 e] at h; cases h
  refine ⟨?_, by unfold parseA; rw [h4, h]; rfl⟩
  unfold hostB okA
  rw [hf, h4, h]
  have := ok6_has58 h
  simp [this]
theorem host_no {u : List UInt8} (h4 : ok4 u = false) (h : framed u = true → ok6 (inner u) = false) : hostB u = false := by
  rw [← Bool.not_eq_true]
  intro hb
  unfold hostB at hb
  rw [Bool.and_eq_true, beq_iff_eq] at hb
  obtain ⟨h1, h2⟩ := hb
  unfold okA at h2
  rw [Bool.or_eq_true] at h2
  cases hf : framed u
  · have hi : inner u = u := by unfold inner; rw [hf]; rfl
    rw [hf, hi] at h1
    rw [hi, h4] at h2
    rcases h2 with h2 | h2
    · cases h2
    · have := ok6_has58 h2
      rw [List.contains_eq_mem, decide_eq_false_iff_not] at h1
      exact h1 this
  · rw [hf] at h1
    rw [h hf] at h2
    rcases h2 with h2 | h2
    · have := ok4_no58 h2
      rw [List.contains_eq_mem, decide_eq_true_eq] at h1
      exact this h1
    · cases h2
theorem hostB_ok {u : List UInt8} (h : hostB u = true) : okA (inner u) = true := by unfold hostB at h; rw [Bool.and_eq_true] at h; exact h.2
theorem portB_iff (v : List UInt8) : portB v = true ↔ parB v 65535 = true ∧ 1 ≤ parN v 65535 := by unfold portB; simp
theorem port_no58 {v : List UInt8} (h : portB v = true) : (58 : UInt8) ∉ v := fun hm => by
  rw [portB_iff, parB_bad 65535 hm (by decide)] at h; cases h.1
theorem port_bd {v : List UInt8} (h : portB v = true) : 1 ≤ parN v 65535 ∧ parN v 65535 ≤ 65535 := by
  obtain ⟨h1, h2⟩ := (portB_iff v).1 h
  have := ((parB_iff v 65535).1 h1).2
  rw [parN_of h1] at h2 ⊢
  exact ⟨h2, this⟩
theorem okE_iff (l : List UInt8) : okE l = true ↔ at58 l ≠ 0 ∧ hostB (head58 l) = true ∧ portB (lastP l) = true := by unfold okE; simp
/-- At a colon, a host ahead of it, a port behind it. -/
theorem okE_mid {u v : List UInt8} (h1 : hostB u = true) (h2 : portB v = true) : okE (u ++ 58 :: v) = true ∧ parseE (u ++ 58 :: v) = ⟨parseA (inner u), parN v 65535⟩ := by
  obtain ⟨e1, e2, e3⟩ := at_mid u (port_no58 h2)
  have h : okE (u ++ 58 :: v) = true := (okE_iff _).2 ⟨by omega, by rw [e3]; exact h1, by rw [e1]; exact h2⟩
  refine ⟨h, ?_⟩
  unfold parseE
  rw [if_pos h, e1, e3]
theorem parseE_no {l : List UInt8} (h : okE l = false) : parseE l = zeroE := by unfold parseE; rw [h]; rfl
theorem parseE_right {l : List UInt8} (h : okE l = true) : rightE (parseE l) = true := by
  obtain ⟨h1, h2, h3⟩ := (okE_iff l).1 h
  unfold parseE
  rw [if_pos h, rightE_iff]
  exact ⟨parseA_right (hostB_ok h2), port_bd h3⟩
theorem parseE_ok (l : List UInt8) : (parseE l).ok := by
  unfold parseE
  split
  · rename_i h
    have := port_bd ((okE_iff l).1 h).2.2
    exact ⟨parseA_ok _, by simp only; omega, by simp only; omega⟩
  · exact ⟨⟨by decide, by decide⟩, by decide, by decide⟩
theorem framed_mk (x : List UInt8) : framed (91 :: (x ++ [93])) = true ∧ inner (91 :: (x ++ [93])) = x := by
  have h : framed (91 :: (x ++ [93])) = true := by
    unfold framed
    rw [← List.cons_append, List.getLast?_append]; simp
  refine ⟨h, ?_⟩
  unfold inner
  rw [if_pos h]; simp
theorem textA_four {a : Adr} (h : rightA a = true) (hv : a.v6 = false) : textA a = text4 a.lo := by unfold textA; rw [if_pos h, hv]; rfl
theorem textA_six {a : Adr} (h : rightA a = true) (hv : a.v6 = true) : textA a = text6 a.hi a.lo := by unfold textA; rw [if_pos h, hv]; rfl
theorem host_back {a : Adr} (ha : a.ok) (h : rightA a = true) : hostB (hostT a) = true ∧ parseA (inner (hostT a)) = a := by
  obtain ⟨h1, h2⟩ := backA ha h
  unfold hostT
  cases hv : a.v6
  · have e := textA_four h hv
    have h4 : ok4 (textA a) = true := by rw [e]; exact ok4_text4 _
    simp only [Bool.false_eq_true, if_false]
    have hi : inner (textA a) = textA a := by unfold inner; rw [ok4_plain h4]; rfl
    exact ⟨(host_four h4).1, by rw [hi]; exact h2⟩
  · simp only [if_true]
    obtain ⟨f1, f2⟩ := framed_mk (textA a)
    have h6 : ok6 (textA a) = true := by rw [textA_six h hv]; exact (back6 ha.1 ha.2).1
    rw [f2]
    exact ⟨(host_six f1 (by rw [f2]; exact h6)).1, h2⟩
theorem port_text {n : Int} (h1 : 1 ≤ n) (h2 : n ≤ 65535) : portB (text n) = true ∧ parN (text n) 65535 = n := by
  have hp : parB (text n) 65535 = true := by rw [parB_text]; simp; omega
  have e := parN_text hp
  exact ⟨(portB_iff _).2 ⟨hp, by rw [e]; exact h1⟩, e⟩
theorem textE_of {e : Endp} (h : rightE e = true) : textE e = hostT e.a ++ 58 :: text e.n := by unfold textE; rw [if_pos h]
theorem textE_no {e : Endp} (h : rightE e = false) : textE e = [45] := by unfold textE; rw [h]; rfl
theorem backE {e : Endp} (he : e.ok) (h : rightE e = true) : okE (textE e) = true ∧ parseE (textE e) = e := by
  obtain ⟨h1, h2, h3⟩ := (rightE_iff e).1 h
  obtain ⟨b1, b2⟩ := host_back he.1 h1
  obtain ⟨p1, p2⟩ := port_text h2 h3
  obtain ⟨o1, o2⟩ := okE_mid b1 p1
  rw [textE_of h]
  exact ⟨o1, by rw [o2, b2, p2]⟩
theorem okE_dash : okE [45] = false := by decide +kernel
theorem okE_text {e : Endp} (he : e.ok) : okE (textE e) = rightE e := by
  cases h : rightE e
  · rw [textE_no h]; exact okE_dash
  · exact (backE he h).1
theorem textE_inj {e f : Endp} (he : e.ok) (hf : f.ok) (h1 : rightE e = true) (h2 : rightE f = true) : textE e = textE f ↔ e = f := by
  refine ⟨fun h => ?_, fun h => by rw [h]⟩
  have a := (backE he h1).2
  rw [h, (backE hf h2).2] at a
  exact a.symm
theorem hostT_len (a : Adr) : (hostT a).length ≤ 42 := by
  have := textA_len a
  unfold hostT
  split
  · simp; omega
  · omega
theorem textE_len {e : Endp} (h : e.ok) : (textE e).length ≤ 64 := by
  unfold textE
  split
  · have h1 := hostT_len e.a
    have h2 := text_len e.n h.2.1 h.2.2
    simp; omega
  · simp
/-! One order. -/
theorem cmpI_one (m n : Int) : cmpI m n = 0 ∨ cmpI m n = 1 ∨ cmpI m n = -1 := by unfold cmpI; split; simp; split <;> simp
theorem cmpI_zero (m n : Int) : cmpI m n = 0 ↔ m = n := by unfold cmpI; split; simp; omega; split <;> simp <;> omega
theorem cmpI_flip (m n : Int) : cmpI m n = -cmpI n m := by unfold cmpI; repeat (first | split | omega)
theorem cmpI_le (m n : Int) : cmpI m n ≤ 0 ↔ m ≤ n := by unfold cmpI; split; simp; omega; split <;> simp <;> omega
theorem cmpE_one (e f : Endp) : cmpE e f = 0 ∨ cmpE e f = 1 ∨ cmpE e f = -1 := by
  unfold cmpE; split
  · exact cmpI_one _ _
  · exact cmp_one _ _
theorem cmpE_zero (e f : Endp) : cmpE e f = 0 ↔ e = f := by
  unfold cmpE
  by_cases h : cmpA e.a f.a = 0
  · rw [if_pos h, cmpI_zero]
    exact ⟨fun hn => end_eq ((cmp_zero _ _).1 h) hn, fun hn => by rw [hn]⟩
  · rw [if_neg h]
    refine ⟨fun hn => absurd hn h, fun hn => ?_⟩
    rw [hn] at h; exact absurd ((cmp_zero _ _).2 rfl) h
theorem cmpE_flip (e f : Endp) : cmpE e f = -cmpE f e := by
  unfold cmpE
  have h := cmp_flip e.a f.a
  by_cases h0 : cmpA e.a f.a = 0
  · rw [if_pos h0, if_pos (by omega)]; exact cmpI_flip _ _
  · rw [if_neg h0, if_neg (by omega)]; exact h
theorem cmpE_le {a b c : Endp} (h1 : cmpE a b ≤ 0) (h2 : cmpE b c ≤ 0) : cmpE a c ≤ 0 := by
  unfold cmpE at *
  by_cases x : cmpA a.a b.a = 0
  · have e := (cmp_zero _ _).1 x
    rw [if_pos x, cmpI_le] at h1
    rw [e]
    by_cases y : cmpA b.a c.a = 0
    · rw [if_pos y, cmpI_le] at h2 ⊢; omega
    · rw [if_neg y] at h2 ⊢; exact h2
  · rw [if_neg x] at h1
    by_cases y : cmpA b.a c.a = 0
    · have e := (cmp_zero _ _).1 y
      rw [← e, if_neg x]; exact h1
    · rw [if_neg y] at h2
      have h3 := cmp_le h1 h2
      by_cases z : cmpA a.a c.a = 0
      · exfalso
        have e := (cmp_zero _ _).1 z
        rw [← e] at h2 y
        have := cmp_flip a.a b.a
        omega
      · rw [if_neg z]; exact h3
theorem cmpE_ge {a b c : Endp} (h1 : 0 ≤ cmpE a b) (h2 : 0 ≤ cmpE b c) : 0 ≤ cmpE a c := by
  have f1 := cmpE_flip a b
  have f2 := cmpE_flip b c
  have f3 := cmpE_flip a c
  have := cmpE_le (a := c) (b := b) (c := a) (by omega) (by omega)
  omega
end Go.Proofs.Ytgnjbbohphoojaa.En
/- Contracts of package endp: who is right, texts, one order. -/
namespace Go.Proofs.Ytgnjbbohphoojaa.En
set_option maxRecDepth 100000
open Go.ChangeShapes Go.WideShapes Go.ChangeAt Go.RowKit
open Dec Words V4 V6 Ad
set_option linter.unusedVariables false
theorem cell_new4 (w : World) (x y z u : Value) (t : TypeId) : (w.alloc (.cells #[x, y, z, u] t)).cell? ⟨w.heap.size, 0, none⟩ = some x ∧ (w.alloc (.cells #[x, y, z, u] t)).cell? ⟨w.heap.size, 1, none⟩ = some y ∧ (w.alloc (.cells #[x, y, z, u] t)).cell? ⟨w.heap.size, 2, none⟩ = some z ∧ (w.alloc (.cells #[x, y, z, u] t)).cell? ⟨w.heap.size, 3, none⟩ = some u := by
  refine ⟨?_, ?_, ?_, ?_⟩ <;> (rw [cell_of_row _ _ _ _ _ _ (heap_alloc_new w _)]; rfl)
/-- Two strings, one behind the other, as lists. -/
theorem add_lists (a b : List UInt8) (h : a.length + b.length ≤ 140737488355328) (W : World) : (Op.stringOp .add (⟨a.toArray⟩ : ByteArray) ⟨b.toArray⟩).run Try.prog W = .ok (.string ⟨(a ++ b).toArray⟩) W := by
  rw [run_string_add_sum W _ _ (by rw [size_mk, size_mk]; omega), ByteArray.mk_append_mk]
theorem add_is {a b c : List UInt8} (e : a ++ b = c) (h : c.length ≤ 140737488355328) (W : World) : (Op.stringOp .add (⟨a.toArray⟩ : ByteArray) ⟨b.toArray⟩).run Try.prog W = .ok (.string ⟨c.toArray⟩) W := by
  subst e; exact add_lists a b (by simpa using h) W
abbrev SE (x : Endp) (w : World) (w' : World) : Prop := w'.cell? ⟨w.heap.size, 0, none⟩ = some (.bool x.a.v6) ∧ w'.cell? ⟨w.heap.size, 1, none⟩ = some (.int .u64 x.a.hi) ∧ w'.cell? ⟨w.heap.size, 2, none⟩ = some (.int .u64 x.a.lo) ∧ w'.cell? ⟨w.heap.size, 3, none⟩ = some (.int .i64 x.n) ∧ Stays (w.alloc (.cells #[.bool x.a.v6, .int .u64 x.a.hi, .int .u64 x.a.lo, .int .i64 x.n] 33)) w'
theorem SE.of {x : Endp} {w w' : World} (h : Stays (w.alloc (.cells #[.bool x.a.v6, .int .u64 x.a.hi, .int .u64 x.a.lo, .int .i64 x.n] 33)) w') : SE x w w' := ⟨Ci.cells_left h (cell_new4 _ _ _ _ _ _).1, Ci.cells_left h (cell_new4 _ _ _ _ _ _).2.1, Ci.cells_left h (cell_new4 _ _ _ _ _ _).2.2.1, Ci.cells_left h (cell_new4 _ _ _ _ _ _).2.2.2, h⟩
theorem SE.on {x : Endp} {w w1 w2 : World} (h : SE x w w1) (k : Below w1.heap.size w1 w2) : SE x w w2 := SE.of (low_trans h.2.2.2.2 k)
theorem SE.low {x : Endp} {w w1 : World} (h : SE x w w1) : Below w.heap.size w w1 := ((Below.refl _ _).alloc (Nat.le_refl _) _).trans (h.2.2.2.2.mono (by simp))
abbrev SEE (x y : Endp) (w : World) (w' : World) : Prop := w'.cell? ⟨w.heap.size, 0, none⟩ = some (.bool x.a.v6) ∧ w'.cell? ⟨w.heap.size, 1, none⟩ = some (.int .u64 x.a.hi) ∧ w'.cell? ⟨w.heap.size, 2, none⟩ = some (.int .u64 x.a.lo) ∧ w'.cell? ⟨w.heap.size, 3, none⟩ = some (.int .i64 x.n) ∧ w'.cell? ⟨w.heap.size + 1, 0, none⟩ = some (.bool y.a.v6) ∧ w'.cell? ⟨w.heap.size + 1, 1, none⟩ = some (.int .u64 y.a.hi) ∧ w'.cell? ⟨w.heap.size + 1, 2, none⟩ = some (.int .u64 y.a.lo) ∧ w'.cell? ⟨w.heap.size + 1, 3, none⟩ = some (.int .i64 y.n) ∧ Stays ((w.alloc (.cells #[.bool x.a.v6, .int .u64 x.a.hi, .int .u64 x.a.lo, .int .i64 x.n] 33)).alloc (.cells #[.bool y.a.v6, .int .u64 y.a.hi, .int .u64 y.a.lo, .int .i64 y.n] 33)) w'
theorem two_ends (w : World) (x y : Endp) : ((w.alloc (.cells #[.bool x.a.v6, .int .u64 x.a.hi, .int .u64 x.a.lo, .int .i64 x.n] 33)).alloc (.cells #[.bool y.a.v6, .int .u64 y.a.hi, .int .u64 y.a.lo, .int .i64 y.n] 33)).cell? ⟨w.heap.size, 0, none⟩ = some (.bool x.a.v6) ∧ ((w.alloc (.cells #[.bool x.a.v6, .int .u64 x.a.hi, .int .u64 x.a.lo, .int .i64 x.n] 33)).alloc (.cells #[.bool y.a.v6, .int .u64 y.a.hi, .int .u64 y.a.lo, .int .i64 y.n] 33)).cell? ⟨w.heap.size, 1, none⟩ = some (.int .u64 x.a.hi) ∧ ((w.alloc (.cells #[.bool x.a.v6, .int .u64 x.a.hi, .int .u64 x.a.lo, .int .i64 x.n] 33)).alloc (.cells #[.bool y.a.v6, .int .u64 y.a.hi, .int .u64 y.a.lo, .int .i64 y.n] 33)).cell? ⟨w.heap.size, 2, none⟩ = some (.int .u64 x.a.lo) ∧ ((w.alloc (.cells #[.bool x.a.v6, .int .u64 x.a.hi, .int .u64 x.a.lo, .int .i64 x.n] 33)).alloc (.cells #[.bool y.a.v6, .int .u64 y.a.hi, .int .u64 y.a.lo, .int .i64 y.n] 33)).cell? ⟨w.heap.size, 3, none⟩ = some (.int .i64 x.n) ∧ ((w.alloc (.cells #[.bool x.a.v6, .int .u64 x.a.hi, .int .u64 x.a.lo, .int .i64 x.n] 33)).alloc (.cells #[.bool y.a.v6, .int .u64 y.a.hi, .int .u64 y.a.lo, .int .i64 y.n] 33)).cell? ⟨w.heap.size + 1, 0, none⟩ = some (.bool y.a.v6) ∧ ((w.alloc (.cells #[.bool x.a.v6, .int .u64 x.a.hi, .int .u64 x.a.lo, .int .i64 x.n] 33)).alloc (.cells #[.bool y.a.v6, .int .u64 y.a.hi, .int .u64 y.a.lo, .int .i64 y.n] 33)).cell? ⟨w.heap.size + 1, 1, none⟩ = some (.int .u64 y.a.hi) ∧ ((w.alloc (.cells #[.bool x.a.v6, .int .u64 x.a.hi, .int .u64 x.a.lo, .int .i64 x.n] 33)).alloc (.cells #[.bool y.a.v6, .int .u64 y.a.hi, .int .u64 y.a.lo, .int .i64 y.n] 33)).cell? ⟨w.heap.size + 1, 2, none⟩ = some (.int .u64 y.a.lo) ∧ ((w.alloc (.cells #[.bool x.a.v6, .int .u64 x.a.hi, .int .u64 x.a.lo, .int .i64 x.n] 33)).alloc (.cells #[.bool y.a.v6, .int .u64 y.a.hi, .int .u64 y.a.lo, .int .i64 y.n] 33)).cell? ⟨w.heap.size + 1, 3, none⟩ = some (.int .i64 y.n) := by
  have n1 := cell_new4 w (.bool x.a.v6) (.int .u64 x.a.hi) (.int .u64 x.a.lo) (.int .i64 x.n) 33
  have n2 := cell_new4 (w.alloc (.cells #[.bool x.a.v6, .int .u64 x.a.hi, .int .u64 x.a.lo, .int .i64 x.n] 33)) (.bool y.a.v6) (.int .u64 y.a.hi) (.int .u64 y.a.lo) (.int .i64 y.n) 33
  rw [show (w.alloc (.cells #[.bool x.a.v6, .int .u64 x.a.hi, .int .u64 x.a.lo, .int .i64 x.n] 33)).heap.size = w.heap.size + 1 by simp] at n2
  have s2 : Stays (w.alloc (.cells #[.bool x.a.v6, .int .u64 x.a.hi, .int .u64 x.a.lo, .int .i64 x.n] 33)) ((w.alloc (.cells #[.bool x.a.v6, .int .u64 x.a.hi, .int .u64 x.a.lo, .int .i64 x.n] 33)).alloc (.cells #[.bool y.a.v6, .int .u64 y.a.hi, .int .u64 y.a.lo, .int .i64 y.n] 33)) := (Below.refl _ _).alloc (Nat.le_refl _) _
  exact ⟨Ci.cells_left s2 n1.1, Ci.cells_left s2 n1.2.1, Ci.cells_left s2 n1.2.2.1, Ci.cells_left s2 n1.2.2.2, n2.1, n2.2.1, n2.2.2.1, n2.2.2.2⟩
theorem SEE.of {x y : Endp} {w w' : World} (h : Stays ((w.alloc (.cells #[.bool x.a.v6, .int .u64 x.a.hi, .int .u64 x.a.lo, .int .i64 x.n] 33)).alloc (.cells #[.bool y.a.v6, .int .u64 y.a.hi, .int .u64 y.a.lo, .int .i64 y.n] 33)) w') : SEE x y w w' := by
  obtain ⟨n0, n1, n2, n3, m0, m1, m2, m3⟩ := two_ends w x y
  exact ⟨Ci.cells_left h n0, Ci.cells_left h n1, Ci.cells_left h n2, Ci.cells_left h n3, Ci.cells_left h m0, Ci.cells_left h m1, Ci.cells_left h m2, Ci.cells_left h m3, h⟩
theorem SEE.on {x y : Endp} {w w1 w2 : World} (h : SEE x y w w1) (k : Below w1.heap.size w1 w2) : SEE x y w w2 := SEE.of (low_trans h.2.2.2.2.2.2.2.2 k)
theorem SEE.low {x y : Endp} {w w1 : World} (h : SEE x y w w1) : Below w.heap.size w w1 := (two_low _ _ _).trans (h.2.2.2.2.2.2.2.2.mono (by simp; omega))
set_option maxHeartbeats 2000000 in
theorem rightE_any (x : Endp) (w : World) (hx : x.ok) :
    Calls Try.prog 34 #[.agg #[.bool x.a.v6, .int .u64 x.a.hi, .int .u64 x.a.lo, .int .i64 x.n]] w fun e w' => e = .returned (.bool (rightE x)) ∧ Below w.heap.size w w' := by
  have K1 : Hid (∀ W, SE x w W → Calls Try.prog 44 #[.agg #[.bool x.a.v6, .int .u64 x.a.hi, .int .u64 x.a.lo]] W fun e w' => e = .returned (.bool (rightA x.a)) ∧ SE x w w') := Lib.hid fun W h => by
    have hc : Calls Try.prog 44 #[.agg #[.bool x.a.v6, .int .u64 x.a.hi, .int .u64 x.a.lo]] W fun e w' => e = .returned (.bool (rightA x.a)) ∧ Below W.heap.size W w' := right_any x.a W hx.1
    exact hc.mono fun e w' ⟨he, hb⟩ => ⟨he, h.on hb⟩
  have hk0 : SE x w (w.alloc (.cells #[.bool x.a.v6, .int .u64 x.a.hi, .int .u64 x.a.lo, .int .i64 x.n] 33)) := SE.of (Below.refl _ _)
  obtain ⟨c0, c1, c2, c3, hs⟩ := id hk0
  have E : Hid (rightE x = (rightA x.a && (decide (1 ≤ x.n) && decide (x.n ≤ 65535)))) := Lib.hid rfl
  cases hr : rightA x.a
  · rw [hr] at K1 E
    clear hr
    go_enter Try.func34, Try.ntmps34
    go_wp2_with fail
    (with_reducible refine (K1.out _ hk0).mono ?_)
    rintro e w1 ⟨rfl, hk1⟩
    clear c0 c1 c2 c3 hs
    obtain ⟨c0, c1, c2, c3, hs⟩ := id hk1
    go_wp2_with fail
    go_ret
    exact ⟨ret_b (by rw [E.out]; rfl), SE.low hk1⟩
  · rw [hr] at K1 E
    clear hr
    by_cases h1 : 1 ≤ x.n
    · have p1 : 0 < x.n := by omega
      by_cases h2 : x.n ≤ 65535
      · have p2 : x.n < 65536 := by omega
        go_enter Try.func34, Try.ntmps34
        go_wp2_with fail
        (with_reducible refine (K1.out _ hk0).mono ?_)
        rintro e w1 ⟨rfl, hk1⟩
        clear c0 c1 c2 c3 hs
        obtain ⟨c0, c1, c2, c3, hs⟩ := id hk1
        go_wp2_with fail
        go_ret
        exact ⟨ret_b (by rw [E.out, Bool.eq_iff_iff]; first | (simp; done) | (simp; omega)), SE.low hk1⟩
      · have p2 : ¬ x.n < 65536 := by omega
        go_enter Try.func34, Try.ntmps34
        go_wp2_with fail
        (with_reducible refine (K1.out _ hk0).mono ?_)
        rintro e w1 ⟨rfl, hk1⟩
        clear c0 c1 c2 c3 hs
        obtain ⟨c0, c1, c2, c3, hs⟩ := id hk1
        go_wp2_with fail
        go_ret
        exact ⟨ret_b (by rw [E.out, Bool.eq_iff_iff]; first | (simp; done) | (simp; omega)), SE.low hk1⟩
    · have p1 : ¬ 0 < x.n := by omega
      go_enter Try.func34, Try.ntmps34
      go_wp2_with fail
      (with_reducible refine (K1.out _ hk0).mono ?_)
      rintro e w1 ⟨rfl, hk1⟩
      clear c0 c1 c2 c3 hs
      obtain ⟨c0, c1, c2, c3, hs⟩ := id hk1
      go_wp2_with fail
      go_ret
      exact ⟨ret_b (by rw [E.out, Bool.eq_iff_iff]; first | (simp; done) | (simp; omega)), SE.low hk1⟩
theorem or_any (m n r : Int) (hr : r = if m = 0 then n else m) (b : Nat) (W : World) (h0 : W.cell? ⟨b, 0, none⟩ = some (.int .i64 m)) (h1 : W.cell? ⟨b, 1, none⟩ = some (.int .i64 n)) :
    Calls Try.prog 38 #[.slice (some ⟨b, 0, none⟩) 2 2] W fun e w' => e = .returned (.int .i64 r) ∧ w' = W := by
  by_cases hm : m = 0
  · have e1 : (m != 0) = false := by rw [bne_eq_false_iff_eq]; exact hm
    rw [if_pos hm] at hr
    by_cases hn : n = 0
    · have e2 : (n != 0) = false := by rw [bne_eq_false_iff_eq]; exact hn
      have E : Hid (0 = r) := Lib.hid (by omega)
      clear hm hn hr
      go_enter Try.func38, Try.ntmps38
      go_wp2
      go_rounds 3
      go_wp2
      go_ret
      exact ⟨ret_i E.out, rfl⟩
    · have e2 : (n != 0) = true := by rw [bne_iff_ne]; exact hn
      have E : Hid (n = r) := Lib.hid hr.symm
      clear hm hn hr
      go_enter Try.func38, Try.ntmps38
      go_wp2
      go_rounds 3
      go_returns
      exact ⟨ret_i E.out, rfl⟩
  · have e1 : (m != 0) = true := by rw [bne_iff_ne]; exact hm
    have E : Hid (m = r) := Lib.hid (by rw [hr, if_neg hm])
    clear hm hr
    go_enter Try.func38, Try.ntmps38
    go_wp2
    go_rounds 3
    go_returns
    exact ⟨ret_i E.out, rfl⟩
theorem compareInt_is (m n : Int) : Lib.compareInt m n = cmpI m n := by unfold Lib.compareInt cmpI; repeat (first | split | omega | rfl)
set_option maxHeartbeats 4000000 in
theorem compareE_any (x y : Endp) (w : World) (hx : x.ok) (hy : y.ok) :
    Calls Try.prog 40 #[.agg #[.bool x.a.v6, .int .u64 x.a.hi, .int .u64 x.a.lo, .int .i64 x.n], .agg #[.bool y.a.v6, .int .u64 y.a.hi, .int .u64 y.a.lo, .int .i64 y.n]] w fun e w' => e = .returned (.int .i64 (cmpE x y)) ∧ Below w.heap.size w w' := by
  have K1 : Hid (∀ W, SEE x y w W → Calls Try.prog 59 #[.agg #[.bool x.a.v6, .int .u64 x.a.hi, .int .u64 x.a.lo], .agg #[.bool y.a.v6, .int .u64 y.a.hi, .int .u64 y.a.lo]] W fun e w' => e = .returned (.int .i64 (cmpA x.a y.a)) ∧ SEE x y w w') := Lib.hid fun W h => by
    have hc : Calls Try.prog 59 #[.agg #[.bool x.a.v6, .int .u64 x.a.hi, .int .u64 x.a.lo], .agg #[.bool y.a.v6, .int .u64 y.a.hi, .int .u64 y.a.lo]] W fun e w' => e = .returned (.int .i64 (cmpA x.a y.a)) ∧ Below W.heap.size W w' := compare_any x.a y.a W hx.1 hy.1
    exact hc.mono fun e w' ⟨he, hb⟩ => ⟨he, h.on hb⟩
  have K2 : Hid (∀ W, SEE x y w W → Calls Try.prog 39 #[.int .i64 x.n, .int .i64 y.n] W fun e w' => e = .returned (.int .i64 (cmpI x.n y.n)) ∧ SEE x y w w') := Lib.hid fun W h => by
    have hc : Calls Try.prog 39 #[.int .i64 x.n, .int .i64 y.n] W fun e w' => e = .returned (.int .i64 (cmpI x.n y.n)) ∧ Below W.heap.size W w' := by
      have h := Try.cmp_Compare_int x.n y.n W
      rw [compareInt_is] at h
      exact h.mono fun e w' ⟨he, hw⟩ => ⟨he, by rw [hw]; exact Below.refl _ _⟩
    exact hc.mono fun e w' ⟨he, hb⟩ => ⟨he, h.on hb⟩
  have K3 : Hid (∀ W : World, SEE x y w W → Calls Try.prog 38 #[.slice (some ⟨W.heap.size, 0, none⟩) 2 2] (W.alloc (.cells #[.int .i64 (cmpA x.a y.a), .int .i64 (cmpI x.n y.n)] 3)) fun e w' => e = .returned (.int .i64 (cmpE x y)) ∧ SEE x y w w') := Lib.hid fun W h => by
    have hc := or_any (cmpA x.a y.a) (cmpI x.n y.n) (cmpE x y) rfl W.heap.size (W.alloc (.cells #[.int .i64 (cmpA x.a y.a), .int .i64 (cmpI x.n y.n)] 3)) (by rw [cell_of_row _ _ _ _ _ _ (heap_alloc_new W _)]; rfl) (by rw [cell_of_row _ _ _ _ _ _ (heap_alloc_new W _)]; rfl)
    exact hc.mono fun e w' ⟨he, hw⟩ => ⟨he, by rw [hw]; exact SEE.of (Below.alloc h.2.2.2.2.2.2.2.2 (Below.size h.2.2.2.2.2.2.2.2) _)⟩
  have JD : Hid (∀ W, SEE x y w W → SEE x y w W.drew) := Lib.hid fun W h => SEE.of (low_drewN h.2.2.2.2.2.2.2.2 1)
  have JA : Hid (∀ W o, SEE x y w W → SEE x y w (W.alloc o)) := Lib.hid fun W o h => SEE.of (Below.alloc h.2.2.2.2.2.2.2.2 (Below.size h.2.2.2.2.2.2.2.2) o)
  have hk0 : SEE x y w ((w.alloc (.cells #[.bool x.a.v6, .int .u64 x.a.hi, .int .u64 x.a.lo, .int .i64 x.n] 33)).alloc (.cells #[.bool y.a.v6, .int .u64 y.a.hi, .int .u64 y.a.lo, .int .i64 y.n] 33)) := SEE.of (Below.refl _ _)
  obtain ⟨c0, c1, c2, c3, c4, c5, c6, c7, hs⟩ := id hk0
  go_enter Try.func40, Try.ntmps40
  go_wp2_with fail
  go_region_held3 (fun w' => w'.cell? ⟨w.heap.size, 0, none⟩ = some (.bool x.a.v6) ∧ w'.cell? ⟨w.heap.size, 1, none⟩ = some (.int .u64 x.a.hi) ∧ w'.cell? ⟨w.heap.size, 2, none⟩ = some (.int .u64 x.a.lo) ∧ w'.cell? ⟨w.heap.size, 3, none⟩ = some (.int .i64 x.n) ∧ w'.cell? ⟨w.heap.size + 1, 0, none⟩ = some (.bool y.a.v6) ∧ w'.cell? ⟨w.heap.size + 1, 1, none⟩ = some (.int .u64 y.a.hi) ∧ w'.cell? ⟨w.heap.size + 1, 2, none⟩ = some (.int .u64 y.a.lo) ∧ w'.cell? ⟨w.heap.size + 1, 3, none⟩ = some (.int .i64 y.n) ∧ Stays ((w.alloc (.cells #[.bool x.a.v6, .int .u64 x.a.hi, .int .u64 x.a.lo, .int .i64 x.n] 33)).alloc (.cells #[.bool y.a.v6, .int .u64 y.a.hi, .int .u64 y.a.lo, .int .i64 y.n] 33)) w')
    (first | assumption | exact JD.out _ ‹_› | exact JA.out _ _ ‹_›)
    (first
      | (go_at_call 59; (with_reducible refine (K1.out _ ‹_›).mono ?_); rintro e w9 ⟨rfl, hkw⟩)
      | (go_at_call 39; (with_reducible refine (K2.out _ ‹_›).mono ?_); rintro e w9 ⟨rfl, hkw⟩)
      | (go_at_call 38; refine (K3.out _ ‹_›).mono ?_; rintro e w9 ⟨rfl, hkw⟩))
  all_goals (go_wp2; go_ret; exact ⟨rfl, SEE.low (‹SEE x y w _›)⟩)
end Go.Proofs.Ytgnjbbohphoojaa.En
/- Contracts of package endp: what is read. -/
namespace Go.Proofs.Ytgnjbbohphoojaa.En
set_option maxRecDepth 100000
open Go.ChangeShapes Go.WideShapes Go.ChangeAt Go.RowKit
open Dec Words V4 V6 Ad
set_option linter.unusedVariables false
theorem slice_take (l : List UInt8) (k : Nat) (h : k ≤ l.length) (W : World) : (Instr.slice 9 (.string ⟨l.toArray⟩) none (some (.int .i64 (k : Int))) none).run Try.prog W = .ok (.string ⟨(l.take k).toArray⟩) W := by
  rw [run_slice_string_h W 9 _ Try.underlying9 .i64 k (by omega) (by rw [size_mk]; omega), Int.toNat_natCast, slice_to]
theorem slice_drop (l : List UInt8) (k : Nat) (h : k ≤ l.length) (W : World) : (Instr.slice 9 (.string ⟨l.toArray⟩) (some (.int .i64 (k : Int))) none none).run Try.prog W = .ok (.string ⟨(l.drop k).toArray⟩) W := by
  rw [run_slice_string_l W 9 _ Try.underlying9 .i64 k (by omega) (by rw [size_mk]; omega), Int.toNat_natCast, size_mk, slice_from l k _ (Nat.le_refl _)]
theorem slice_mid (l : List UInt8) (a b : Nat) (h1 : a ≤ b) (h : b ≤ l.length) (W : World) : (Instr.slice 9 (.string ⟨l.toArray⟩) (some (.int .i64 (a : Int))) (some (.int .i64 (b : Int))) none).run Try.prog W = .ok (.string ⟨((l.take b).drop a).toArray⟩) W := by
  rw [run_slice_string W 9 _ .i64 .i64 a b Try.underlying9 (by omega) (by omega) (by rw [size_mk]; omega), Int.toNat_natCast, Int.toNat_natCast]
  rw [← str_same ((⟨l.toArray⟩ : ByteArray).extract a b), Lib.extract_data, str_back, List.drop_take]
theorem framed_lib (u : List UInt8) : framed u = (Lib.hasPrefix u [91] && Lib.hasSuffix u [93]) := by
  unfold framed
  congr 1
  · cases u with
    | nil => rfl
    | cons c r =>
      show (some c == some 91) = _
      by_cases h : c = 91
      · subst h; simp [Lib.hasPrefix]
      · rw [show (some c == some (91 : UInt8)) = false from by simpa using h]
        simp [Lib.hasPrefix, List.isPrefixOf]
        exact fun e => h e.symm
  · rcases List.eq_nil_or_concat u with rfl | ⟨q, d, rfl⟩
    · rfl
    · rw [List.concat_eq_append, List.getLast?_append]
      rw [Bool.eq_iff_iff]
      simp [Lib.hasSuffix, List.isSuffixOf, List.isPrefixOf]
      exact eq_comm
def hostA (u : List UInt8) : Adr := if hostB u then parseA (inner u) else ⟨false, 0, 0⟩
def HostE (u : List UInt8) (w : World) (e : Ending) (w' : World) : Prop := e = .returned (.tuple #[.agg #[.bool (hostA u).v6, .int .u64 (hostA u).hi, .int .u64 (hostA u).lo], .bool (hostB u)]) ∧ Below w.heap.size w w'
theorem host_mk {u : List UInt8} {w w' : World} {e : Ending} {a : Adr} {b : Bool} (ha : hostA u = a) (hb : hostB u = b) (he : e = .returned (.tuple #[.agg #[.bool a.v6, .int .u64 a.hi, .int .u64 a.lo], .bool b])) (h : Below w.heap.size w w') : HostE u w e w' := by
  subst ha hb; exact ⟨he, h⟩
theorem host_off {u : List UInt8} (h : (inner u).contains 58 = !framed u) : hostB u = false ∧ hostA u = ⟨false, 0, 0⟩ := by
  have e : hostB u = false := by unfold hostB; rw [h]; cases framed u <;> rfl
  exact ⟨e, by unfold hostA; rw [e]; rfl⟩
theorem host_on {u : List UInt8} (h : (inner u).contains 58 = framed u) : hostB u = okA (inner u) ∧ hostA u = parseA (inner u) := by
  have e : hostB u = okA (inner u) := by unfold hostB; rw [h]; simp
  refine ⟨e, ?_⟩
  unfold hostA
  rw [e]
  cases hk : okA (inner u)
  · rw [parseA_no hk]; rfl
  · rfl
theorem hostA_ok (u : List UInt8) : (hostA u).ok := by
  unfold hostA; split
  · exact parseA_ok _
  · exact ⟨by decide, by decide⟩
theorem inner_le (u : List UInt8) : (inner u).length ≤ u.length := by
  unfold inner; split
  · simp; omega
  · exact Nat.le_refl _
theorem framed_len {u : List UInt8} (h : framed u = true) : 2 ≤ u.length := by
  rcases u with _ | ⟨c, _ | ⟨d, r⟩⟩
  · cases h
  · unfold framed at h
    simp at h
    rw [h.1] at h; cases h.2
  · simp
theorem inner_slice {u : List UInt8} (h : framed u = true) : (u.take (u.length - 1)).drop 1 = inner u := by
  have h2 := framed_len h
  unfold inner
  rw [if_pos h, List.dropLast_eq_take, List.length_drop, List.drop_take]
def ParseE (l : List UInt8) (w : World) (e : Ending) (w' : World) : Prop := e = .returned (.tuple #[.agg #[.bool (parseE l).a.v6, .int .u64 (parseE l).a.hi, .int .u64 (parseE l).a.lo, .int .i64 (parseE l).n], .bool (okE l)]) ∧ Below w.heap.size w w'
theorem parseE_mk {l : List UInt8} {w w' : World} {e : Ending} {x : Endp} {b : Bool} (hx : parseE l = x) (hb : okE l = b) (he : e = .returned (.tuple #[.agg #[.bool x.a.v6, .int .u64 x.a.hi, .int .u64 x.a.lo, .int .i64 x.n], .bool b])) (h : Below w.heap.size w w') : ParseE l w e w' := by
  subst hx hb; exact ⟨he, h⟩
theorem okE_none {l : List UInt8} (h : at58 l = 0) : okE l = false := by unfold okE; simp [h]
theorem okE_host {l : List UInt8} (h : hostB (head58 l) = false) : okE l = false := by unfold okE; simp [h]
theorem okE_port {l : List UInt8} (h : portB (lastP l) = false) : okE l = false := by unfold okE; simp [h]
theorem okE_all {l : List UInt8} (h0 : at58 l ≠ 0) (h1 : hostB (head58 l) = true) (h2 : portB (lastP l) = true) : okE l = true ∧ parseE l = ⟨hostA (head58 l), parN (lastP l) 65535⟩ := by
  have e : okE l = true := (okE_iff l).2 ⟨h0, h1, h2⟩
  refine ⟨e, ?_⟩
  unfold parseE hostA; rw [e, h1]; rfl
theorem head58_le (l : List UInt8) : (head58 l).length ≤ l.length := by unfold head58; exact List.length_take_le' _ _
theorem right_port {u v : List UInt8} (h : hostB u = true) (hp : parB v 65535 = true) : rightE ⟨hostA u, parN v 65535⟩ = portB v := by
  have h1 : rightA (hostA u) = true := by unfold hostA; rw [if_pos h]; exact parseA_right (hostB_ok h)
  have h2 : parN v 65535 ≤ 65535 := by rw [parN_of hp]; exact ((parB_iff v 65535).1 hp).2
  unfold rightE portB
  simp [h1, hp, h2]
end Go.Proofs.Ytgnjbbohphoojaa.En
/- Contracts of the document's answers for layer 9: who is right, texts, one order. -/
namespace Go.Proofs.Ytgnjbbohphoojaa.En
set_option maxRecDepth 100000
open Go.ChangeShapes Go.WideShapes Go.ChangeAt Go.RowKit
open Dec Words V4 V6 Ad
set_option linter.unusedVariables false
set_option maxHeartbeats 2000000 in
theorem rrightE_any (x : Endp) (w : World) (hx : x.ok) :
    Calls Try.prog 18 #[.agg #[.bool x.a.v6, .int .u64 x.a.hi, .int .u64 x.a.lo, .int .i64 x.n]] w fun e w' => e = .returned (.bool (rightE x)) ∧ Below w.heap.size w w' := by
  have K1 : Hid (∀ W, SE x w W → Calls Try.prog 19 #[.agg #[.bool x.a.v6, .int .u64 x.a.hi, .int .u64 x.a.lo]] W fun e w' => e = .returned (.bool (rightA x.a)) ∧ SE x w w') := Lib.hid fun W h => by
    have hc : Calls Try.prog 19 #[.agg #[.bool x.a.v6, .int .u64 x.a.hi, .int .u64 x.a.lo]] W fun e w' => e = .returned (.bool (rightA x.a)) ∧ Below W.heap.size W w' := rright_any x.a W hx.1
    exact hc.mono fun e w' ⟨he, hb⟩ => ⟨he, h.on hb⟩
  have hk0 : SE x w (w.alloc (.cells #[.bool x.a.v6, .int .u64 x.a.hi, .int .u64 x.a.lo, .int .i64 x.n] 33)) := SE.of (Below.refl _ _)
  obtain ⟨c0, c1, c2, c3, hs⟩ := id hk0
  have E : Hid (rightE x = (rightA x.a && (decide (1 ≤ x.n) && decide (x.n ≤ 65535)))) := Lib.hid rfl
  cases hr : rightA x.a
  · rw [hr] at K1 E
    clear hr
    go_enter Try.func18, Try.ntmps18
    go_wp2_with fail
    (with_reducible refine (K1.out _ hk0).mono ?_)
    rintro e w1 ⟨rfl, hk1⟩
    clear c0 c1 c2 c3 hs
    obtain ⟨c0, c1, c2, c3, hs⟩ := id hk1
    go_wp2_with fail
    go_ret
    exact ⟨ret_b (by rw [E.out]; rfl), SE.low hk1⟩
  · rw [hr] at K1 E
    clear hr
    by_cases h1 : 1 ≤ x.n
    · have p1 : 0 < x.n := by omega
      by_cases h2 : x.n ≤ 65535
      · have p2 : x.n < 65536 := by omega
        go_enter Try.func18, Try.ntmps18
        go_wp2_with fail
        (with_reducible refine (K1.out _ hk0).mono ?_)
        rintro e w1 ⟨rfl, hk1⟩
        clear c0 c1 c2 c3 hs
        obtain ⟨c0, c1, c2, c3, hs⟩ := id hk1
        go_wp2_with fail
        go_ret
        exact ⟨ret_b (by rw [E.out, Bool.eq_iff_iff]; first | (simp; done) | (simp; omega)), SE.low hk1⟩
      · have p2 : ¬ x.n < 65536 := by omega
        go_enter Try.func18, Try.ntmps18
        go_wp2_with fail
        (with_reducible refine (K1.out _ hk0).mono ?_)
        rintro e w1 ⟨rfl, hk1⟩
        clear c0 c1 c2 c3 hs
        obtain ⟨c0, c1, c2, c3, hs⟩ := id hk1
        go_wp2_with fail
        go_ret
        exact ⟨ret_b (by rw [E.out, Bool.eq_iff_iff]; first | (simp; done) | (simp; omega)), SE.low hk1⟩
    · have p1 : ¬ 0 < x.n := by omega
      go_enter Try.func18, Try.ntmps18
      go_wp2_with fail
      (with_reducible refine (K1.out _ hk0).mono ?_)
      rintro e w1 ⟨rfl, hk1⟩
      clear c0 c1 c2 c3 hs
      obtain ⟨c0, c1, c2, c3, hs⟩ := id hk1
      go_wp2_with fail
      go_ret
      exact ⟨ret_b (by rw [E.out, Bool.eq_iff_iff]; first | (simp; done) | (simp; omega)), SE.low hk1⟩
end Go.Proofs.Ytgnjbbohphoojaa.En
/- Contracts of the document's answers for layer 9: what is read. -/
namespace Go.Proofs.Ytgnjbbohphoojaa.En
set_option maxRecDepth 100000
open Go.ChangeShapes Go.WideShapes Go.ChangeAt Go.RowKit
open Dec Words V4 V6 Ad
set_option linter.unusedVariables false
theorem split_at {l : List UInt8} {k : Nat} (h : k < l.length) {c : UInt8} (e : l[k] = c) : l.take k ++ c :: l.drop (k + 1) = l := by
  rw [← e, List.getElem_cons_drop, List.take_append_drop]
theorem good_ok {l : List UInt8} {k : Nat} (h : k < l.length) (e : l[k] = 58) (g1 : hostB (l.take k) = true) (g2 : portB (l.drop (k + 1)) = true) : okE l = true ∧ parseE l = ⟨parseA (inner (l.take k)), parN (l.drop (k + 1)) 65535⟩ := by
  have := okE_mid g1 g2
  rwa [split_at h e] at this
/-- Not at this place: no colon, or no host ahead of it, or no port behind it. -/
def off (l : List UInt8) (k : Nat) : Prop := ∀ h : k < l.length, l[k] = 58 → ¬ (hostB (l.take k) = true ∧ portB (l.drop (k + 1)) = true)
theorem mid_facts {l u v : List UInt8} (e : l = u ++ 58 :: v) : l[u.length]? = some 58 ∧ l.take u.length = u ∧ l.drop (u.length + 1) = v := by
  subst e
  refine ⟨?_, ?_, ?_⟩
  · rw [List.getElem?_append_right (Nat.le_refl _)]; simp
  · rw [List.take_append, List.take_of_length_le (Nat.le_refl _)]; simp
  · rw [List.drop_append, List.drop_of_length_le (by omega)]; simp
theorem bad_all {l : List UInt8} (h : ∀ k, k < l.length → off l k) : okE l = false := by
  rw [← Bool.not_eq_true]
  intro hk
  obtain ⟨h0, h1, h2⟩ := (okE_iff l).1 hk
  obtain ⟨e, hn⟩ := at_split h0
  have hle := at58_le l
  have hlt : (head58 l).length < l.length := by omega
  obtain ⟨g, t1, t2⟩ := mid_facts e
  rw [List.getElem?_eq_getElem hlt, Option.some.injEq] at g
  exact h _ hlt hlt g ⟨by rw [t1]; exact h1, by rw [t2]; exact h2⟩
theorem framed_take {l : List UInt8} {k : Nat} (h : k ≤ l.length) : framed (l.take k) = true ↔ 2 ≤ k ∧ l[0]? = some 91 ∧ l[k - 1]? = some 93 := by
  constructor
  · intro hf
    have h2 := framed_len hf
    rw [List.length_take] at h2
    unfold framed at hf
    rw [Bool.and_eq_true, beq_iff_eq, beq_iff_eq, List.head?_take, List.getLast?_take, if_neg (by omega), if_neg (by omega)] at hf
    refine ⟨by omega, by rw [← List.head?_eq_getElem?]; exact hf.1, ?_⟩
    have h3 := hf.2
    rw [List.getElem?_eq_getElem (by omega : k - 1 < l.length)] at h3 ⊢
    simpa using h3
  · rintro ⟨h2, h0, h1⟩
    unfold framed
    rw [Bool.and_eq_true, beq_iff_eq, beq_iff_eq, List.head?_take, List.getLast?_take, if_neg (by omega), if_neg (by omega), List.head?_eq_getElem?]
    refine ⟨h0, ?_⟩
    rw [h1]; rfl
theorem inner_take {l : List UInt8} {k : Nat} (h : k ≤ l.length) (hf : framed (l.take k) = true) : (l.take (k - 1)).drop 1 = inner (l.take k) := by
  have := inner_slice hf
  rw [List.length_take, List.take_take] at this
  rw [← this]
  congr 2; omega
theorem index_at (l : List UInt8) (k : Nat) (i : Int) (hi : i = (k : Int)) (h : k < l.length) (W : World) : (Instr.index 9 (.string ⟨l.toArray⟩) (.int .i64 i)).run Try.prog W = .ok (.int .u8 (l[k].toNat : Int)) W := by
  subst hi
  rw [run_index_string (h := Try.underlying9), dif_pos ⟨by omega, by rw [size_mk]; omega⟩]
  simp [ByteArray.getElem_eq_getElem_data]
theorem byte_on {x c : UInt8} {n : Int} (hn : (c.toNat : Int) = n) (h : x = c) : ((x.toNat : Int) == n) = true ∧ ((x.toNat : Int) != n) = false := by
  subst h hn; simp
theorem byte_no {x c : UInt8} {n : Int} (hn : (c.toNat : Int) = n) (h : x ≠ c) : ((x.toNat : Int) == n) = false ∧ ((x.toNat : Int) != n) = true := by
  have : ¬ ((x.toNat : Int) = n) := fun e => h (UInt8.toNat_inj.1 (by omega))
  refine ⟨?_, ?_⟩
  · rw [beq_eq_false_iff_ne]; exact this
  · rw [bne_iff_ne]; exact this
end Go.Proofs.Ytgnjbbohphoojaa.En
