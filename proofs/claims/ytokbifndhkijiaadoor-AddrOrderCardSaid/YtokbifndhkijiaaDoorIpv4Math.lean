/- Plain words on addresses of four bytes and their texts: no program. -/
import Derived.Test.YtokbifndhkijiaaDoorDecMath
import Derived.Test.YtokbifndhkijiaaDoorWordsMath
namespace Go.Proofs.YtokbifndhkijiaaDoor.V4
open Dec Words
/-- The four parts of an address's text, the highest first. -/
def parts4 (n : Nat) : List (List UInt8) := [text ((n / 16777216 % 256 : Nat) : Int), text ((n / 65536 % 256 : Nat) : Int), text ((n / 256 % 256 : Nat) : Int), text ((n % 256 : Nat) : Int)]
def text4 (n : Nat) : List UInt8 := glue 46 (parts4 n)
/-- The number that parts make. -/
def val4 (ps : List (List UInt8)) : Nat := ps.foldl (fun n p => 256 * n + (parN p 255).toNat) 0
def ok4 (l : List UInt8) : Bool := decide ((cut 46 l).length = 4) && (cut 46 l).all fun p => parB p 255
def num4 (l : List UInt8) : Nat := if ok4 l then val4 (cut 46 l) else 0
theorem val4_snoc (ps : List (List UInt8)) (p : List UInt8) : val4 (ps ++ [p]) = 256 * val4 ps + (parN p 255).toNat := by simp [val4, List.foldl_append]
theorem parN255 (p : List UInt8) : 0 ≤ parN p 255 ∧ parN p 255 ≤ 255 := by
  cases e : parB p 255
  · rw [parN_no e]; omega
  · have := ((parB_iff p 255).1 e).2
    rw [parN_of e]; omega
theorem val4_lt (ps : List (List UInt8)) : val4 ps < 256 ^ ps.length := by
  induction ps using snocRec with
  | nil => simp [val4]
  | snoc ps p ih =>
    have := parN255 p
    rw [val4_snoc, List.length_append, List.length_singleton, Nat.pow_succ]; omega
theorem val4_take_lt (ps : List (List UInt8)) (k : Nat) (h : k ≤ 3) : val4 (ps.take k) < 16777216 := by
  have h1 := val4_lt (ps.take k)
  have h2 : 256 ^ (ps.take k).length ≤ 256 ^ 3 := Nat.pow_le_pow_right (by omega) (Nat.le_trans (List.length_take_le _ _) h)
  have h3 : (256 : Nat) ^ 3 = 16777216 := by decide
  omega
theorem val4_four {ps : List (List UInt8)} (h : ps.length = 4) : val4 ps < 4294967296 := by
  have h1 := val4_lt ps
  have h3 : (256 : Nat) ^ 4 = 4294967296 := by decide
  rw [h, h3] at h1; exact h1
theorem val4_list (a b c d : List UInt8) : val4 [a, b, c, d] = 256 * (256 * (256 * (parN a 255).toNat + (parN b 255).toNat) + (parN c 255).toNat) + (parN d 255).toNat := by
  simp [val4]
theorem ok4_iff (l : List UInt8) : ok4 l = true ↔ (cut 46 l).length = 4 ∧ ∀ p ∈ cut 46 l, parB p 255 = true := by unfold ok4; simp
theorem num4_of {l : List UInt8} (h : ok4 l = true) : num4 l = val4 (cut 46 l) := by unfold num4; rw [if_pos h]
theorem num4_no {l : List UInt8} (h : ok4 l = false) : num4 l = 0 := by unfold num4; rw [h]; rfl
theorem num4_lt (l : List UInt8) : num4 l < 4294967296 := by
  cases e : ok4 l
  · rw [num4_no e]; omega
  · rw [num4_of e]; exact val4_four ((ok4_iff l).1 e).1
theorem ok4_len {l : List UInt8} (h : (cut 46 l).length ≠ 4) : ok4 l = false := by
  cases e : ok4 l
  · rfl
  · exact absurd ((ok4_iff l).1 e).1 h
theorem ok4_bad {l : List UInt8} (k : Nat) (hk : k < (cut 46 l).length) (h : parB (cut 46 l)[k] 255 = false) : ok4 l = false := by
  cases e : ok4 l
  · rfl
  · rw [((ok4_iff l).1 e).2 _ (List.getElem_mem hk)] at h; cases h
theorem text_digit {n : Nat} {c : UInt8} (h : c ∈ text (n : Int)) : dv c < 10 := by
  unfold text at h
  rw [if_neg (by omega), Int.natAbs_natCast] at h
  exact digs_all (by omega) (by omega) n c h
theorem text_no46 (n : Nat) : (46 : UInt8) ∉ text (n : Int) := fun h => absurd (text_digit h) (by decide)
theorem text_byte_len {n : Nat} (h : n < 256) : (text (n : Int)).length ≤ 3 := by
  unfold text
  rw [if_neg (by omega), Int.natAbs_natCast]
  exact digs_len (b := 10) (by omega) 2 n (by omega)
theorem parts4_no46 (n : Nat) : ∀ x ∈ parts4 n, (46 : UInt8) ∉ x := by
  intro x hx
  simp only [parts4, List.mem_cons, List.not_mem_nil, or_false] at hx
  rcases hx with rfl | rfl | rfl | rfl <;> exact text_no46 _
theorem cut_text4 (n : Nat) : cut 46 (text4 n) = parts4 n := cut_glue (by simp [parts4]) (parts4_no46 n)
theorem text4_len (n : Nat) : (text4 n).length ≤ 15 := by
  have h1 := text_byte_len (n := n / 16777216 % 256) (by omega)
  have h2 := text_byte_len (n := n / 65536 % 256) (by omega)
  have h3 := text_byte_len (n := n / 256 % 256) (by omega)
  have h4 := text_byte_len (n := n % 256) (by omega)
  simp only [text4, parts4, glue, List.length_append, List.length_cons]
  omega
theorem parB_byte {n : Nat} (h : n < 256) : parB (text (n : Int)) 255 = true := by rw [parB_text]; simp; omega
theorem parN_byte {n : Nat} (h : n < 256) : (parN (text (n : Int)) 255).toNat = n := by rw [parN_text (parB_byte h)]; omega
theorem ok4_text4 (n : Nat) : ok4 (text4 n) = true := by
  rw [ok4_iff, cut_text4]
  refine ⟨rfl, fun p hp => ?_⟩
  simp only [parts4, List.mem_cons, List.not_mem_nil, or_false] at hp
  rcases hp with rfl | rfl | rfl | rfl <;> exact parB_byte (Nat.mod_lt _ (by omega))
theorem num4_text4 {n : Nat} (h : n < 4294967296) : num4 (text4 n) = n := by
  rw [num4_of (ok4_text4 n), cut_text4, parts4, val4_list]
  rw [parN_byte (Nat.mod_lt _ (by omega)), parN_byte (Nat.mod_lt _ (by omega)), parN_byte (Nat.mod_lt _ (by omega)), parN_byte (Nat.mod_lt _ (by omega))]
  omega
theorem text_back {p : List UInt8} (h : parB p 255 = true) : text (((parN p 255).toNat : Nat) : Int) = p := by
  rw [Int.toNat_of_nonneg (parN255 p).1]; exact text_parN h
theorem text4_num4 {l : List UInt8} (h : ok4 l = true) : text4 (num4 l) = l := by
  obtain ⟨h1, h2⟩ := (ok4_iff l).1 h
  rw [num4_of h]
  match e : cut 46 l, h1 with
  | [a, b, c, d], _ =>
    rw [e] at h2
    have ha := parN255 a
    have hb := parN255 b
    have hc := parN255 c
    have hd := parN255 d
    have e1 : (256 * (256 * (256 * (parN a 255).toNat + (parN b 255).toNat) + (parN c 255).toNat) + (parN d 255).toNat) / 16777216 % 256 = (parN a 255).toNat := by omega
    have e2 : (256 * (256 * (256 * (parN a 255).toNat + (parN b 255).toNat) + (parN c 255).toNat) + (parN d 255).toNat) / 65536 % 256 = (parN b 255).toNat := by omega
    have e3 : (256 * (256 * (256 * (parN a 255).toNat + (parN b 255).toNat) + (parN c 255).toNat) + (parN d 255).toNat) / 256 % 256 = (parN c 255).toNat := by omega
    have e4 : (256 * (256 * (256 * (parN a 255).toNat + (parN b 255).toNat) + (parN c 255).toNat) + (parN d 255).toNat) % 256 = (parN d 255).toNat := by omega
    rw [val4_list, text4, parts4, e1, e2, e3, e4, text_back (h2 a (by simp)), text_back (h2 b (by simp)), text_back (h2 c (by simp)), text_back (h2 d (by simp)), ← e, glue_cut]
/-- The document's way: the number that all parts make, if its text is the text. -/
theorem ok4_same {l : List UInt8} {m : Nat} (hm : m < 4294967296) (h : text4 m = l) : ok4 l = true ∧ num4 l = m := by
  subst h; exact ⟨ok4_text4 m, num4_text4 hm⟩
theorem ok4_other {l : List UInt8} {m : Nat} (hm : m = val4 (cut 46 l) % 4294967296) (h : text4 m ≠ l) : ok4 l = false := by
  cases e : ok4 l
  · rfl
  · refine absurd ?_ h
    rw [hm, Nat.mod_eq_of_lt (val4_four ((ok4_iff l).1 e).1), ← num4_of e]
    exact text4_num4 e
theorem ok4_long {l : List UInt8} (h : 15 < l.length) : ok4 l = false := by
  cases e : ok4 l
  · rfl
  · have := text4_len (num4 l)
    rw [text4_num4 e] at this; omega
/-- A shift and an or are a sum. -/
theorem shl_or {n b : Nat} (hb : b < 256) : (n * 256) ||| b = 256 * n + b := by
  have h := Nat.two_pow_add_eq_or_of_lt (i := 8) (b := b) (by omega) n
  rw [Nat.mul_comm n 256]
  simpa using h.symm
end Go.Proofs.YtokbifndhkijiaaDoor.V4
