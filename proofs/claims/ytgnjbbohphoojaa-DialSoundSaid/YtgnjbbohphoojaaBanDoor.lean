/- Plain mathematics of bans: which may be, their lines, and which ban a line is. Imports nothing of the dump. -/
import Derived.Test.YtgnjbbohphoojaaMath
import Derived.Test.YtgnjbbohphoojaaCidrAll
import Derived.Test.YtgnjbbohphoojaaRecsDoor
import Derived.OpenShut
import Derived.Test.YtgnjbbohphoojaaTwoDoor
namespace Go.Proofs.Ytgnjbbohphoojaa.Ba
open Dec Words V4 V6 Ad Ci
set_option linter.unusedVariables false
theorem part_mem32 {l : List UInt8} (h : (32 : UInt8) ∈ l) : ∃ x ∈ parts l, (32 : UInt8) ∈ x := by
  unfold parts
  rw [if_neg (by rintro rfl; cases h)]
  exact cut_mem (by decide) h
theorem text_no32 (n : Nat) : (32 : UInt8) ∉ text (n : Int) := fun h => absurd (text_digit h) (by decide)
theorem text4_no32 (n : Nat) : (32 : UInt8) ∉ text4 n := by
  have h0 := text_no32 (n / 16777216 % 256)
  have h1 := text_no32 (n / 65536 % 256)
  have h2 := text_no32 (n / 256 % 256)
  have h3 := text_no32 (n % 256)
  unfold text4 parts4
  generalize text ((n / 16777216 % 256 : Nat) : Int) = a at *
  generalize text ((n / 65536 % 256 : Nat) : Int) = b at *
  generalize text ((n / 256 % 256 : Nat) : Int) = c at *
  generalize text ((n % 256 : Nat) : Int) = d at *
  simp [glue, h0, h1, h2, h3]
theorem ok4_no32 {l : List UInt8} (h : ok4 l = true) : (32 : UInt8) ∉ l := by rw [← text4_num4 h]; exact text4_no32 _
theorem hexB_no32 {l : List UInt8} (h : hexB l = true) : (32 : UInt8) ∉ l := fun hm => by
  rw [hexB_bad hm (by decide)] at h; cases h
theorem allHex_no32 {l : List UInt8} (h : allHex (spell (parts l)) = true) : (32 : UInt8) ∉ l := fun hm => by
  obtain ⟨x, hx, h32⟩ := part_mem32 hm
  rcases spell_mem _ x hx with hs | h4
  · unfold allHex at h
    exact hexB_no32 (List.all_eq_true.1 h x hs) h32
  · exact ok4_no32 h4 h32
theorem allHex_no32' {l : List UInt8} (h : allHex (parts l) = true) : (32 : UInt8) ∉ l := fun hm => by
  obtain ⟨x, hx, h32⟩ := part_mem32 hm
  unfold allHex at h
  exact hexB_no32 (List.all_eq_true.1 h x hx) h32
theorem ok6_no32 {l : List UInt8} (h : ok6 l = true) : (32 : UInt8) ∉ l := by
  unfold ok6 groups at h
  split at h
  · split at h
    · rename_i h2
      exact allHex_no32 h2.1
    · cases h
  · rename_i b a hg
    split at h
    · rename_i h2
      rw [(gap_some.1 hg).1]
      have h3 := allHex_no32' h2.1
      have h4 := allHex_no32 h2.2.1
      simp [h3, h4]
    · cases h
theorem okA_no32 {l : List UInt8} (h : okA l = true) : (32 : UInt8) ∉ l := by
  unfold okA at h
  rcases Bool.or_eq_true _ _ ▸ h with h | h
  · exact ok4_no32 h
  · exact ok6_no32 h
theorem textA_no32 {a : Adr} (ha : a.ok) (h : rightA a = true) : (32 : UInt8) ∉ textA a := okA_no32 (backA ha h).1
structure Ban where
  n : Net
  t : Int
instance : Inhabited Ban := ⟨⟨⟨⟨false, 0, 0⟩, 0⟩, 0⟩⟩
def Ban.ok (b : Ban) : Prop := b.n.ok ∧ -9223372036854775808 ≤ b.t ∧ b.t ≤ 9223372036854775807
def zeroB : Ban := ⟨zero, 0⟩
def rightB (b : Ban) : Bool := rightN b.n && (decide (0 < b.t) && decide (b.t ≤ 1099511627776))
def livesB (b : Ban) (now : Int) : Bool := decide (now < b.t)
def hitsB (b : Ban) (a : Adr) (now : Int) : Bool := livesB b now && hasN b.n a
def joinB (a b : Ban) : Ban := if sameN a.n b.n && decide (a.t < b.t) then b else a
def sameB (a b : Ban) : Bool := sameN a.n b.n && a.t == b.t
def word : List UInt8 := [117, 110, 116, 105, 108]
def textB (b : Ban) : List UInt8 := if rightB b then textN b.n ++ 32 :: (word ++ 32 :: text b.t) else []
def preB (l : List UInt8) : List UInt8 := l.takeWhile (· != 32)
def restB (l : List UInt8) : List UInt8 := l.drop ((preB l).length + 7)
def banP (l : List UInt8) : Ban := ⟨parseN (preB l), parN (restB l) 1099511627776⟩
def okB (l : List UInt8) : Bool := l.contains 32 && (okN (preB l) && (decide ((preB l).length + 7 ≤ l.length) && (parB (restB l) 1099511627776 && textB (banP l) == l)))
def parseB (l : List UInt8) : Ban := if okB l then banP l else zeroB
theorem ban_eq {a b : Ban} (h1 : a.n = b.n) (h2 : a.t = b.t) : a = b := by
  cases a; cases b; simp_all
theorem sameB_iff (a b : Ban) : sameB a b = true ↔ a = b := by
  unfold sameB
  rw [Bool.and_eq_true, sameN_iff, beq_iff_eq]
  exact ⟨fun h => ban_eq h.1 h.2, fun h => by subst h; exact ⟨rfl, rfl⟩⟩
theorem sameB_self (a : Ban) : sameB a a = true := (sameB_iff a a).2 rfl
theorem rightB_iff (b : Ban) : rightB b = true ↔ rightN b.n = true ∧ 0 < b.t ∧ b.t ≤ 1099511627776 := by unfold rightB; simp
theorem zero_ok : zero.ok := by unfold zero; exact ⟨⟨by decide, by decide⟩, by decide, by decide⟩
theorem zeroB_ok : zeroB.ok := ⟨zero_ok, by decide, by decide⟩
theorem joinB_ok {a b : Ban} (ha : a.ok) (hb : b.ok) : (joinB a b).ok := by
  unfold joinB
  cases (sameN a.n b.n && decide (a.t < b.t))
  · exact ha
  · exact hb
/-- Join, as a maximum. -/
theorem joinB_max (a b : Ban) : joinB a b = if sameN a.n b.n then ⟨a.n, max a.t b.t⟩ else a := by
  unfold joinB
  cases h : sameN a.n b.n
  · rfl
  · have hn := (sameN_iff _ _).1 h
    by_cases ht : a.t < b.t
    · simp only [ht, decide_true, Bool.and_self, if_true]
      exact ban_eq hn.symm (by simp only; omega)
    · simp only [ht, decide_false, Bool.and_false, if_true, Bool.false_eq_true, if_false]
      exact ban_eq rfl (by simp only; omega)
theorem textN_no32 {n : Net} (hn : n.ok) (h : rightN n = true) : (32 : UInt8) ∉ textN n := by
  obtain ⟨h1, h2⟩ := (rightN_iff n).1 h
  obtain ⟨h3, h4, h5⟩ := (makeB_iff _ _).1 h1
  unfold textN
  rw [if_pos h]
  obtain ⟨k, hk⟩ : ∃ k : Nat, n.n = (k : Int) := ⟨n.n.toNat, by omega⟩
  rw [hk]
  have ha := textA_no32 hn.1 h3
  have hb := text_no32 k
  simp [ha, hb]
theorem textB_yes {b : Ban} (h : rightB b = true) : textB b = textN b.n ++ 32 :: (word ++ 32 :: text b.t) := by unfold textB; rw [if_pos h]
theorem textB_no {b : Ban} (h : rightB b = false) : textB b = [] := by unfold textB; rw [h]; rfl
theorem textT_no32 {b : Ban} (h : rightB b = true) : (32 : UInt8) ∉ text b.t := by
  obtain ⟨_, h1, _⟩ := (rightB_iff b).1 h
  obtain ⟨k, hk⟩ : ∃ k : Nat, b.t = (k : Int) := ⟨b.t.toNat, by omega⟩
  rw [hk]; exact text_no32 k
theorem textB_cut {b : Ban} (hb : b.ok) (h : rightB b = true) : cut 32 (textB b) = [textN b.n, word, text b.t] := by
  rw [textB_yes h, cut_mid (textN_no32 hb.1 ((rightB_iff b).1 h).1), cut_mid (by decide), cut_none (textT_no32 h)]
theorem preB_mid {u : List UInt8} (h : (32 : UInt8) ∉ u) (v : List UInt8) : preB (u ++ 32 :: v) = u := by
  unfold preB
  induction u with
  | nil => rfl
  | cons b u ih =>
    have h1 : b ≠ 32 := fun e => h (by simp [e])
    rw [List.cons_append, List.takeWhile_cons, if_pos (by simpa using h1), ih (fun e => h (List.mem_cons_of_mem _ e))]
theorem preB_le (l : List UInt8) : (preB l).length ≤ l.length := by unfold preB; exact (List.takeWhile_sublist _).length_le
theorem banP_text {b : Ban} (hb : b.ok) (h : rightB b = true) : banP (textB b) = b ∧ preB (textB b) = textN b.n ∧ restB (textB b) = text b.t ∧ (preB (textB b)).length + 7 ≤ (textB b).length := by
  obtain ⟨h1, h2, h3⟩ := (rightB_iff b).1 h
  have e := textB_yes h
  have p : preB (textB b) = textN b.n := by rw [e]; exact preB_mid (textN_no32 hb.1 h1) _
  have r : restB (textB b) = text b.t := by
    unfold restB
    rw [p, e, show textN b.n ++ 32 :: (word ++ 32 :: text b.t) = (textN b.n ++ (32 :: (word ++ [32]))) ++ text b.t by simp]
    exact List.drop_left' (by simp [word])
  refine ⟨?_, p, r, ?_⟩
  · unfold banP
    rw [p, r]
    have hp : parB (text b.t) 1099511627776 = true := by rw [parB_text]; simp; omega
    exact ban_eq (backN hb.1 h1).2 (parN_text hp)
  · rw [p, e]; simp [word]
theorem backB {b : Ban} (hb : b.ok) (h : rightB b = true) : okB (textB b) = true ∧ parseB (textB b) = b := by
  obtain ⟨h1, h2, h3⟩ := (rightB_iff b).1 h
  obtain ⟨e1, e2, e3, e4⟩ := banP_text hb h
  have hp : parB (text b.t) 1099511627776 = true := by rw [parB_text]; simp; omega
  have hc : (textB b).contains 32 = true := by rw [textB_yes h]; simp
  have ho : okB (textB b) = true := by
    unfold okB
    rw [hc, e1, e2, e3, (backN hb.1 h1).1, hp]
    rw [e2] at e4
    simp [e4]
  exact ⟨ho, by unfold parseB; rw [if_pos ho, e1]⟩
theorem banP_ok (l : List UInt8) : (banP l).ok := by
  have h := parN_bd (restB l) 1099511627776 (by decide) (by decide)
  exact ⟨parseN_ok _, by unfold banP; simp only; omega, by unfold banP; simp only; omega⟩
theorem parseB_ok (l : List UInt8) : (parseB l).ok := by
  unfold parseB; split
  · exact banP_ok l
  · exact zeroB_ok
theorem parseB_no {l : List UInt8} (h : okB l = false) : parseB l = zeroB := by unfold parseB; rw [h]; rfl
theorem okB_nil : okB [] = false := by decide +kernel
theorem okB_is {l : List UInt8} (h : okB l = true) : rightB (parseB l) = true ∧ textB (parseB l) = l := by
  have e : parseB l = banP l := by unfold parseB; rw [if_pos h]
  have h2 := h
  unfold okB at h2
  simp only [Bool.and_eq_true, beq_iff_eq] at h2
  rw [e]
  refine ⟨?_, h2.2.2.2.2⟩
  cases hr : rightB (banP l)
  · have := h2.2.2.2.2
    rw [textB_no hr] at this
    rw [← this, okB_nil] at h; cases h
  · rfl
theorem okB_iff (l : List UInt8) : okB l = true ↔ ∃ b : Ban, b.ok ∧ rightB b = true ∧ textB b = l :=
  ⟨fun h => ⟨parseB l, parseB_ok l, okB_is h⟩, fun ⟨b, h1, h2, h3⟩ => by rw [← h3]; exact (backB h1 h2).1⟩
/-- What a line is, cut at its blanks. -/
theorem okB_three {l : List UInt8} (h : okB l = true) : cut 32 l = [textN (parseB l).n, word, text (parseB l).t] := by
  obtain ⟨h1, h2⟩ := okB_is h
  have := textB_cut (parseB_ok l) h1
  rwa [h2] at this
theorem okB_len {l : List UInt8} (h : (cut 32 l).length ≠ 3) : okB l = false := by
  cases e : okB l
  · rfl
  · rw [okB_three e] at h; exact absurd rfl h
theorem okB_word {l x u y : List UInt8} (hc : cut 32 l = [x, u, y]) (h : u ≠ word) : okB l = false := by
  cases e : okB l
  · rfl
  · rw [okB_three e] at hc
    simp only [List.cons.injEq, and_true] at hc
    exact absurd hc.2.1.symm h
theorem okB_noN {l x u y : List UInt8} (hc : cut 32 l = [x, u, y]) (h : okN x = false) : okB l = false := by
  cases e : okB l
  · rfl
  · obtain ⟨h1, _⟩ := okB_is e
    rw [okB_three e] at hc
    simp only [List.cons.injEq, and_true] at hc
    rw [← hc.1, (backN (parseB_ok l).1 ((rightB_iff _).1 h1).1).1] at h; cases h
theorem okB_noT {l x u y : List UInt8} (hc : cut 32 l = [x, u, y]) (h : parB y 1099511627776 = false) : okB l = false := by
  cases e : okB l
  · rfl
  · obtain ⟨h1, _⟩ := okB_is e
    obtain ⟨_, h2, h3⟩ := (rightB_iff _).1 h1
    rw [okB_three e] at hc
    simp only [List.cons.injEq, and_true] at hc
    rw [← hc.2.2, parB_text] at h
    simp at h; omega
theorem three_is {l x u y : List UInt8} (hc : cut 32 l = [x, u, y]) (h : okB l = true) : parseB l = ⟨parseN x, parN y 1099511627776⟩ := by
  obtain ⟨h1, _⟩ := okB_is h
  obtain ⟨h3, h4, h5⟩ := (rightB_iff _).1 h1
  rw [okB_three h] at hc
  simp only [List.cons.injEq, and_true] at hc
  have hp : parB (text (parseB l).t) 1099511627776 = true := by rw [parB_text]; simp; omega
  rw [← hc.1, ← hc.2.2, (backN (parseB_ok l).1 h3).2, parN_text hp]
theorem okB_other {l x u y : List UInt8} (hc : cut 32 l = [x, u, y]) (h : textB ⟨parseN x, parN y 1099511627776⟩ ≠ l) : okB l = false := by
  cases e : okB l
  · rfl
  · rw [← three_is hc e] at h
    exact absurd (okB_is e).2 h
theorem okB_same {l x u y : List UInt8} (hc : cut 32 l = [x, u, y]) (h : textB ⟨parseN x, parN y 1099511627776⟩ = l) : okB l = true ∧ parseB l = ⟨parseN x, parN y 1099511627776⟩ := by
  have hk : (⟨parseN x, parN y 1099511627776⟩ : Ban).ok := by
    have h := parN_bd y 1099511627776 (by decide) (by decide)
    exact ⟨parseN_ok _, by simp only; omega, by simp only; omega⟩
  have hr : rightB ⟨parseN x, parN y 1099511627776⟩ = true := by
    cases e : rightB ⟨parseN x, parN y 1099511627776⟩
    · rw [textB_no e] at h
      rw [← h] at hc; cases hc
    · rfl
  have := backB hk hr
  rwa [h] at this
theorem textB_len {b : Ban} (hb : b.ok) : (textB b).length ≤ 92 := by
  unfold textB
  split
  · have h1 := textN_len hb.1
    have h2 := text_len b.t hb.2.1 hb.2.2
    simp [word]; omega
  · simp
theorem parseB_noN {l : List UInt8} (h : okN (preB l) = false) : okB l = false := by unfold okB; rw [h]; simp
theorem okB_noblank {l : List UInt8} (h : (32 : UInt8) ∉ l) : okB l = false := by unfold okB; simp [h]
theorem okB_short {l : List UInt8} (h : l.length < (preB l).length + 7) : okB l = false := by unfold okB; simp; omega
theorem okB_noP {l : List UInt8} (h : parB (restB l) 1099511627776 = false) : okB l = false := by unfold okB; rw [h]; simp
theorem okB_unlike {l : List UInt8} (h : (textB (banP l) == l) = false) : okB l = false := by unfold okB; rw [h]; simp
theorem okB_all {l : List UInt8} (h0 : (32 : UInt8) ∈ l) (h1 : okN (preB l) = true) (h2 : (preB l).length + 7 ≤ l.length) (h3 : parB (restB l) 1099511627776 = true) (h4 : (textB (banP l) == l) = true) : okB l = true ∧ parseB l = banP l := by
  have e : okB l = true := by unfold okB; rw [h1, h3, h4]; simp [h0, h2]
  exact ⟨e, by unfold parseB; rw [if_pos e]⟩
/-- What holds at a tick held ahead of it. -/
theorem hits_ahead {b : Ban} {a : Adr} {lo hi : Int} (h : lo ≤ hi) (hh : hitsB b a hi = true) : hitsB b a lo = true := by
  unfold hitsB livesB at *
  simp only [Bool.and_eq_true, decide_eq_true_eq] at *
  exact ⟨by omega, hh.2⟩
end Go.Proofs.Ytgnjbbohphoojaa.Ba
/- Bans: boxes, comparison, as they come in. -/
namespace Go.Proofs.Ytgnjbbohphoojaa
set_option maxRecDepth 100000
open Go.ChangeShapes Go.WideShapes Go.ChangeAt Go.RowKit
open Dec Words V4 V6 Ad Ci Ba Go.Deep
set_option linter.unusedVariables false
def encB (b : Ban) : List Value := [.bool b.n.a.v6, .int .u64 b.n.a.hi, .int .u64 b.n.a.lo, .int .i64 b.n.n, .int .i64 b.t]
theorem encB_len (b : Ban) : (encB b).length = 5 := rfl
theorem encB_one (b : Ban) : ∀ u ∈ encB b, u.oneCell' = true := by
  unfold encB; simp [Value.oneCell']
abbrev Bans (w : World) (v : Value) (l : List Ban) : Prop := Recs 5 encB w v l
theorem cell_at (w : World) (cs : Array Value) (t : TypeId) (j : Nat) (v : Value) (h : cs[j]? = some v) : (w.alloc (.cells cs t)).cell? ⟨w.heap.size, j, none⟩ = some v := by
  rw [cell_of_row _ _ _ _ _ _ (heap_alloc_new w _)]; exact h
theorem cell_new5 (w : World) (x y z u v : Value) (t : TypeId) : (w.alloc (.cells #[x, y, z, u, v] t)).cell? ⟨w.heap.size, 0, none⟩ = some x ∧ (w.alloc (.cells #[x, y, z, u, v] t)).cell? ⟨w.heap.size, 1, none⟩ = some y ∧ (w.alloc (.cells #[x, y, z, u, v] t)).cell? ⟨w.heap.size, 2, none⟩ = some z ∧ (w.alloc (.cells #[x, y, z, u, v] t)).cell? ⟨w.heap.size, 3, none⟩ = some u ∧ (w.alloc (.cells #[x, y, z, u, v] t)).cell? ⟨w.heap.size, 4, none⟩ = some v := by
  refine ⟨?_, ?_, ?_, ?_, ?_⟩ <;> (rw [cell_of_row _ _ _ _ _ _ (heap_alloc_new w _)]; rfl)
abbrev SN1 (x : Ban) (w : World) (w' : World) : Prop := w'.cell? ⟨w.heap.size, 0, none⟩ = some (.bool x.n.a.v6) ∧ w'.cell? ⟨w.heap.size, 1, none⟩ = some (.int .u64 x.n.a.hi) ∧ w'.cell? ⟨w.heap.size, 2, none⟩ = some (.int .u64 x.n.a.lo) ∧ w'.cell? ⟨w.heap.size, 3, none⟩ = some (.int .i64 x.n.n) ∧ w'.cell? ⟨w.heap.size, 4, none⟩ = some (.int .i64 x.t) ∧ Stays (w.alloc (.cells #[.bool x.n.a.v6, .int .u64 x.n.a.hi, .int .u64 x.n.a.lo, .int .i64 x.n.n, .int .i64 x.t] 45)) w'
theorem SN1.of {x : Ban} {w w' : World} (h : Stays (w.alloc (.cells #[.bool x.n.a.v6, .int .u64 x.n.a.hi, .int .u64 x.n.a.lo, .int .i64 x.n.n, .int .i64 x.t] 45)) w') : SN1 x w w' := ⟨Ci.cells_left h (cell_new5 _ _ _ _ _ _ _).1, Ci.cells_left h (cell_new5 _ _ _ _ _ _ _).2.1, Ci.cells_left h (cell_new5 _ _ _ _ _ _ _).2.2.1, Ci.cells_left h (cell_new5 _ _ _ _ _ _ _).2.2.2.1, Ci.cells_left h (cell_new5 _ _ _ _ _ _ _).2.2.2.2, h⟩
theorem SN1.on {x : Ban} {w w1 w2 : World} (h : SN1 x w w1) (k : Below w1.heap.size w1 w2) : SN1 x w w2 := SN1.of (low_trans h.2.2.2.2.2 k)
theorem SN1.low {x : Ban} {w w1 : World} (h : SN1 x w w1) : Below w.heap.size w w1 := ((Below.refl _ _).alloc (Nat.le_refl _) _).trans (h.2.2.2.2.2.mono (by simp))
theorem eqInNet (d : Nat) (m n : Net) (w : World) : (Op.equalIn (d + 3) 43 (.agg #[.bool m.a.v6, .int .u64 m.a.hi, .int .u64 m.a.lo, .int .i64 m.n]) (.agg #[.bool n.a.v6, .int .u64 n.a.hi, .int .u64 n.a.lo, .int .i64 n.n])).run Try.prog w = .ok (sameN m n) w := by
  have hA : ∀ w : World, (isAgg 31).run Try.prog w = .ok true w := fun _ => by kernel_rfl
  have hz : ∀ w : World, (sizeOf 31).run Try.prog w = .ok 3 w := fun _ => by kernel_rfl
  have h3 : ∀ w : World, (isAgg 3).run Try.prog w = .ok false w := fun _ => by kernel_rfl
  rw [run_equalIn_struct w (d + 2) _ _ _ (by kernel_rfl) (by kernel_rfl)]
  rw [show (Try.prog.fieldsOf 43).toList = [⟨"Addr", 31, 0, false, "", "", 0⟩, ⟨"Bits", 3, 3, false, "", "", 24⟩] from by kernel_rfl]
  have p0 : ∀ n : Net, (part 31 #[.bool n.a.v6, .int .u64 n.a.hi, .int .u64 n.a.lo, .int .i64 n.n] 0).run Try.prog w = .ok (.agg #[.bool n.a.v6, .int .u64 n.a.hi, .int .u64 n.a.lo]) w := fun n => by simp [part, hA, hz]
  have p1 : ∀ n : Net, (part 3 #[.bool n.a.v6, .int .u64 n.a.hi, .int .u64 n.a.lo, .int .i64 n.n] 3).run Try.prog w = .ok (.int .i64 n.n) w := fun n => part_one w _ _ _ _ (h3 w) rfl
  have q0 := eqInAdr d m.a n.a w
  have q1 : (Op.equalIn (d + 2) 3 (.int .i64 m.n) (.int .i64 n.n)).run Try.prog w = .ok (m.n == n.n) w := run_equalIn_int w (d + 1) _ _ _ _ _ Try.underlying3
  simp only [Op.eqFields, Sem.run_bind, Sem.run_ite, p0, p1, q0, q1, Result.andThen_ok, sameN]
  cases (sameA m.a n.a) <;> cases (m.n == n.n) <;> simp
theorem eqBan (m n : Ban) (w : World) : (binOp .eql 45 (.agg #[.bool m.n.a.v6, .int .u64 m.n.a.hi, .int .u64 m.n.a.lo, .int .i64 m.n.n, .int .i64 m.t]) (.agg #[.bool n.n.a.v6, .int .u64 n.n.a.hi, .int .u64 n.n.a.lo, .int .i64 n.n.n, .int .i64 n.t])).run Try.prog w = .ok (.bool (sameB m n)) w := by
  have hA : ∀ w : World, (isAgg 43).run Try.prog w = .ok true w := fun _ => by kernel_rfl
  have hz : ∀ w : World, (sizeOf 43).run Try.prog w = .ok 4 w := fun _ => by kernel_rfl
  have h3 : ∀ w : World, (isAgg 3).run Try.prog w = .ok false w := fun _ => by kernel_rfl
  rw [run_eql_struct, run_equalIn_struct w 9999 _ _ _ (by kernel_rfl) (by kernel_rfl)]
  rw [show (Try.prog.fieldsOf 45).toList = [⟨"Net", 43, 0, false, "", "", 0⟩, ⟨"Until", 3, 4, false, "", "", 32⟩] from by kernel_rfl]
  have p0 : ∀ n : Ban, (part 43 #[.bool n.n.a.v6, .int .u64 n.n.a.hi, .int .u64 n.n.a.lo, .int .i64 n.n.n, .int .i64 n.t] 0).run Try.prog w = .ok (.agg #[.bool n.n.a.v6, .int .u64 n.n.a.hi, .int .u64 n.n.a.lo, .int .i64 n.n.n]) w := fun n => by simp [part, hA, hz]
  have p1 : ∀ n : Ban, (part 3 #[.bool n.n.a.v6, .int .u64 n.n.a.hi, .int .u64 n.n.a.lo, .int .i64 n.n.n, .int .i64 n.t] 4).run Try.prog w = .ok (.int .i64 n.t) w := fun n => part_one w _ _ _ _ (h3 w) rfl
  have q0 := eqInNet 9996 m.n n.n w
  have q1 : (Op.equalIn 9999 3 (.int .i64 m.t) (.int .i64 n.t)).run Try.prog w = .ok (m.t == n.t) w := run_equalIn_int w 9998 _ _ _ _ _ Try.underlying3
  simp only [Op.eqFields, Sem.run_bind, Sem.run_ite, p0, p1, q0, q1, Result.andThen_ok, sameB]
  cases (sameN m.n n.n) <;> cases (m.t == n.t) <;> simp
theorem neqBan (m n : Ban) (w : World) : (binOp .neq 45 (.agg #[.bool m.n.a.v6, .int .u64 m.n.a.hi, .int .u64 m.n.a.lo, .int .i64 m.n.n, .int .i64 m.t]) (.agg #[.bool n.n.a.v6, .int .u64 n.n.a.hi, .int .u64 n.n.a.lo, .int .i64 n.n.n, .int .i64 n.t])).run Try.prog w = .ok (.bool (!sameB m n)) w := by
  have h := eqBan m n w
  rw [run_eql_struct] at h
  rw [run_neq_struct]
  generalize (Op.equalIn 10000 45 (.agg #[.bool m.n.a.v6, .int .u64 m.n.a.hi, .int .u64 m.n.a.lo, .int .i64 m.n.n, .int .i64 m.t]) (.agg #[.bool n.n.a.v6, .int .u64 n.n.a.hi, .int .u64 n.n.a.lo, .int .i64 n.n.n, .int .i64 n.t])).run Try.prog w = r at h
  cases r with
  | ok x w' =>
    simp only [Result.andThen_ok, Result.ok.injEq, Value.bool.injEq] at h ⊢
    obtain ⟨rfl, rfl⟩ := h
    exact ⟨rfl, rfl⟩
  | halt x w' => cases h
def ParseBan (l : List UInt8) (w : World) (e : Ending) (w' : World) : Prop := e = .returned (.tuple #[.agg #[.bool (parseB l).n.a.v6, .int .u64 (parseB l).n.a.hi, .int .u64 (parseB l).n.a.lo, .int .i64 (parseB l).n.n, .int .i64 (parseB l).t], .bool (okB l)]) ∧ Below w.heap.size w w'
theorem parseB_mk {l : List UInt8} {w w' : World} {e : Ending} {x : Ban} {b : Bool} (hx : parseB l = x) (hb : okB l = b) (he : e = .returned (.tuple #[.agg #[.bool x.n.a.v6, .int .u64 x.n.a.hi, .int .u64 x.n.a.lo, .int .i64 x.n.n, .int .i64 x.t], .bool b])) (h : Below w.heap.size w w') : ParseBan l w e w' := by
  subst hx hb; exact ⟨he, h⟩
theorem ban_cells {H : Type} {enc : TypeId × Value → H} {W : World} {fuel : Nat} {cs : List Value} {y : DataW H × List MemPlace}
    (hf : DataW.trod enc Try.prog W 0 (fun _ => true) true fuel 45 cs = some y) (hl : cs.length = 5) : ∃ b : Ban, cs = encB b ∧ b.ok := by
  match cs, hl with
  | [c0, c1, c2, c3, c4], _ =>
  obtain ⟨y0, y1, m, _, _, h0, h1⟩ := trod_struct2 Try.underlying45 hf
  have k1 : Try.prog.cellsOf 3 = 1 := by kernel_rfl
  have k4 : Try.prog.cellsOf 43 = 4 := by kernel_rfl
  have h0' : DataW.trod enc Try.prog W 0 (fun _ => true) true m 43 (([c0, c1, c2, c3, c4].drop 0).take (Try.prog.cellsOf 43)) = some y0 := h0
  have h1' : DataW.trod enc Try.prog W 0 (fun _ => true) true m 3 (([c0, c1, c2, c3, c4].drop 4).take (Try.prog.cellsOf 3)) = some y1 := h1
  rw [k1] at h1'
  rw [k4] at h0'
  have g0 : DataW.trod enc Try.prog W 0 (fun _ => true) true m 43 [c0, c1, c2, c3] = some y0 := h0'
  have g1 : DataW.trod enc Try.prog W 0 (fun _ => true) true m 3 [c4] = some y1 := h1'
  obtain ⟨x1, j1, _, w1⟩ := DataW.trod_int Try.underlying3 g1
  obtain ⟨N, hN, jN⟩ := net_cells (ta := 31) (tb := 4) (tu := 29) (ti := 3) Try.underlying43 rfl rfl Try.underlying31 (by kernel_rfl) rfl rfl (by kernel_rfl) (by kernel_rfl) (by kernel_rfl) rfl rfl rfl Try.underlying4 Try.underlying29 Try.underlying3 g0
  simp only [List.cons.injEq, and_true] at j1 jN
  obtain ⟨rfl, rfl, rfl, rfl⟩ := jN
  subst j1
  exact ⟨⟨N, x1⟩, rfl, hN, wf64 w1⟩
theorem open_ban {H : Type} {enc : TypeId × Value → H} {W : World} {v : Value} {d : DataW H} {ps : List MemPlace} {r : Reach} {b0 : Nat}
    (hval : Value.okWide Try.prog W r b0 45 v) (h : DataW.Trod enc Try.prog W 0 (fun _ => true) true 45 v d ps) : ∃ b : Ban, b.ok ∧ v = .agg #[.bool b.n.a.v6, .int .u64 b.n.a.hi, .int .u64 b.n.a.lo, .int .i64 b.n.n, .int .i64 b.t] := by
  obtain ⟨cs, rfl, hsz⟩ := okWide_struct Try.underlying45 hval
  have hC : Try.prog.cellsOf 45 = 5 := by kernel_rfl
  obtain ⟨fuel, hf⟩ := h
  obtain ⟨b, hb, hk⟩ := ban_cells hf (by show cs.toList.length = 5; rw [Array.length_toList, hsz, hC])
  refine ⟨b, hk, ?_⟩
  have e : cs = (encB b).toArray := by
    have : cs.toList = encB b := hb
    rw [← this]
  rw [e]; rfl
theorem open_bans {H : Type} {enc : TypeId × Value → H} {W : World} {v : Value} {d : DataW H} {ps : List MemPlace} {r : Reach} {b0 : Nat}
    (hval : Value.okWide Try.prog W r b0 24 v) (h : DataW.Trod enc Try.prog W 0 (fun _ => true) true 24 v d ps) : ∃ xs : List Ban, Bans W v xs ∧ xs.length ≤ 9223372036854775807 ∧ ∀ x ∈ xs, x.ok :=
  open_recs (encR := encB) (good := Ban.ok) Try.underlying24 (by kernel_rfl) (by decide) (fun _ _ _ hf hl => ban_cells hf hl) hval h
end Go.Proofs.Ytgnjbbohphoojaa
