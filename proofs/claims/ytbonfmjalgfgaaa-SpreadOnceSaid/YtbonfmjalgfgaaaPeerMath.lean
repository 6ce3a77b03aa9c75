/- Plain mathematics of peers. Imports nothing of the dump. -/
import Derived.Test.YtbonfmjalgfgaaaSatMath
import Derived.Test.YtbonfmjalgfgaaaRef09All
namespace Go.Proofs.Ytbonfmjalgfgaaa.Pe
open Dec Words V4 V6 Ad Ci En Sat Ha
set_option linter.unusedVariables false
/-- A peer: its end, came it in, since when, its score, its latency, its last work. -/
structure Pr where
  e : Endp
  i : Bool
  t : Int
  c : Sc
  g : Int
  k : Int
def Pr.ok (x : Pr) : Prop := x.e.ok ∧ (-9223372036854775808 ≤ x.t ∧ x.t ≤ 9223372036854775807) ∧ x.c.ok ∧ (-9223372036854775808 ≤ x.g ∧ x.g ≤ 9223372036854775807) ∧ (-9223372036854775808 ≤ x.k ∧ x.k ≤ 9223372036854775807)
def inR (n m : Int) : Bool := decide (0 ≤ n) && decide (n ≤ m)
def rightP (x : Pr) : Bool := rightE x.e && inR x.t 1099511627776 && inR x.c.a 1099511627776 && inR x.k 1099511627776 && inR x.c.p 1099511627776 && inR x.g 1048576
def newP (e : Endp) (i : Bool) (n : Int) : Pr := ⟨e, i, fit n, ⟨0, fit n⟩, 0, 0⟩
def pongG (g m : Int) : Int := if (1 ≤ m ∧ m ≤ 1048576) ∧ (g = 0 ∨ m < g) then m else g
def pongP (x : Pr) (m : Int) : Pr := ⟨x.e, x.i, x.t, x.c, pongG x.g m, x.k⟩
def workK (k n : Int) : Int := if k < fit n then fit n else k
def workP (x : Pr) (n : Int) : Pr := ⟨x.e, x.i, x.t, x.c, x.g, workK x.k n⟩
def blameP (x : Pr) (n h a : Int) : Pr := ⟨x.e, x.i, x.t, addS x.c n h a, x.g, x.k⟩
def wayP (i : Bool) : List UInt8 := if i then [105, 110] else [111, 117, 116]
def wordsP (x : Pr) : List (List UInt8) := [wayP x.i, textE x.e, [115, 105, 110, 99, 101], text x.t, [112, 111, 105, 110, 116, 115], text (wholeS x.c), [112, 105, 110, 103], text x.g, [119, 111, 114, 107], text x.k]
def textP (x : Pr) : List UInt8 := glue 32 (wordsP x)
theorem inR_iff (n m : Int) : inR n m = true ↔ 0 ≤ n ∧ n ≤ m := by unfold inR; simp
theorem rightP_iff (x : Pr) : rightP x = true ↔ rightE x.e = true ∧ (0 ≤ x.t ∧ x.t ≤ 1099511627776) ∧ (0 ≤ x.c.a ∧ x.c.a ≤ 1099511627776) ∧ (0 ≤ x.k ∧ x.k ≤ 1099511627776) ∧ (0 ≤ x.c.p ∧ x.c.p ≤ 1099511627776) ∧ (0 ≤ x.g ∧ x.g ≤ 1048576) := by
  unfold rightP; simp only [Bool.and_eq_true, inR_iff]
  constructor
  · rintro ⟨⟨⟨⟨⟨h1, h2⟩, h3⟩, h4⟩, h5⟩, h6⟩; exact ⟨h1, h2, h3, h4, h5, h6⟩
  · rintro ⟨h1, h2, h3, h4, h5, h6⟩; exact ⟨⟨⟨⟨⟨h1, h2⟩, h3⟩, h4⟩, h5⟩, h6⟩
theorem right_ok {x : Pr} (he : x.e.ok) (h : rightP x = true) : x.ok := by
  obtain ⟨_, h2, h3, h4, h5, h6⟩ := (rightP_iff x).1 h
  exact ⟨he, ⟨by omega, by omega⟩, ⟨⟨by omega, by omega⟩, ⟨by omega, by omega⟩⟩, ⟨by omega, by omega⟩, ⟨by omega, by omega⟩⟩
theorem whole_bd {s : Sc} (h : s.ok) : -9223372036854775808 ≤ wholeS s ∧ wholeS s ≤ 9223372036854775807 := by
  have := h.1
  unfold wholeS; split <;> omega
theorem workK_bd (k n : Int) (hk : 0 ≤ k ∧ k ≤ 1099511627776) : 0 ≤ workK k n ∧ workK k n ≤ 1099511627776 := by
  have := fit_bd n
  unfold workK; split <;> omega
theorem pongG_bd (g m : Int) (hg : 0 ≤ g ∧ g ≤ 1048576) : 0 ≤ pongG g m ∧ pongG g m ≤ 1048576 := by unfold pongG; split <;> omega
theorem pong_right {x : Pr} (h : rightP x = true) (m : Int) : rightP (pongP x m) = true := by
  obtain ⟨h1, h2, h3, h4, h5, h6⟩ := (rightP_iff x).1 h
  exact (rightP_iff _).2 ⟨h1, h2, h3, h4, h5, pongG_bd _ _ h6⟩
theorem work_right {x : Pr} (h : rightP x = true) (n : Int) : rightP (workP x n) = true := by
  obtain ⟨h1, h2, h3, h4, h5, h6⟩ := (rightP_iff x).1 h
  exact (rightP_iff _).2 ⟨h1, h2, h3, workK_bd _ _ h4, h5, h6⟩
theorem blame_right {x : Pr} (h : rightP x = true) (n l a : Int) : rightP (blameP x n l a) = true := by
  obtain ⟨h1, h2, h3, h4, h5, h6⟩ := (rightP_iff x).1 h
  exact (rightP_iff _).2 ⟨h1, h2, add_at _ _ _ _, h4, add_p _ _ _ _, h6⟩
theorem workK_is (k n : Int) (hk : 0 ≤ k) : max k (min n 1099511627776) = workK k n := by
  unfold workK fit; repeat (first | split | omega)
theorem textP_len {x : Pr} (h : x.ok) : (textP x).length ≤ 400 := by
  have h1 := textE_len h.1
  have h2 := text_len x.t h.2.1.1 h.2.1.2
  have h3 := text_len (wholeS x.c) (whole_bd h.2.2.1).1 (whole_bd h.2.2.1).2
  have h4 := text_len x.g h.2.2.2.1.1 h.2.2.2.1.2
  have h5 := text_len x.k h.2.2.2.2.1 h.2.2.2.2.2
  have h6 : (wayP x.i).length ≤ 3 := by unfold wayP; split <;> decide
  simp only [textP, wordsP, glue, List.length_append, List.length_cons, List.length_nil]
  omega
def encP (x : Pr) : List Value := [.bool x.e.a.v6, .int .u64 x.e.a.hi, .int .u64 x.e.a.lo, .int .i64 x.e.n, .bool x.i, .int .i64 x.t, .int .i64 x.c.p, .int .i64 x.c.a, .int .i64 x.g, .int .i64 x.k]
/-- What a peer does: a kind and two numbers. -/
structure Act17 where
  kind : Int
  n : Int
  a : Int
def Act17.ok (x : Act17) : Prop := (-9223372036854775808 ≤ x.kind ∧ x.kind ≤ 9223372036854775807) ∧ (-9223372036854775808 ≤ x.n ∧ x.n ≤ 9223372036854775807) ∧ (-9223372036854775808 ≤ x.a ∧ x.a ≤ 9223372036854775807)
def enc17 (x : Act17) : List Value := [.int .i64 x.kind, .int .i64 x.n, .int .i64 x.a]
theorem enc17_len (x : Act17) : (enc17 x).length = 3 := rfl
end Go.Proofs.Ytbonfmjalgfgaaa.Pe
