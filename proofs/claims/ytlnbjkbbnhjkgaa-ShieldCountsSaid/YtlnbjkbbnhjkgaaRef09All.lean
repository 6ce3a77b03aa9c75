/- Contracts of the document's answers for layer 9: who is right, texts, one order. -/
import Derived.Test.YtlnbjkbbnhjkgaaEndpAll
import Derived.Test.YtlnbjkbbnhjkgaaRef06All
namespace Go.Proofs.Ytlnbjkbbnhjkgaa.En
set_option maxRecDepth 100000
open Go.ChangeShapes Go.WideShapes Go.ChangeAt Go.RowKit
open Dec Words V4 V6 Ad
set_option linter.unusedVariables false
set_option maxHeartbeats 4000000 in
theorem rcompareE_any (x y : Endp) (w : World) (hx : x.ok) (hy : y.ok) :
    Calls Try.prog 32 #[.agg #[.bool x.a.v6, .int .u64 x.a.hi, .int .u64 x.a.lo, .int .i64 x.n], .agg #[.bool y.a.v6, .int .u64 y.a.hi, .int .u64 y.a.lo, .int .i64 y.n]] w fun e w' => e = .returned (.int .i64 (cmpE x y)) ∧ Below w.heap.size w w' := by
  have K1 : Hid (∀ W, SEE x y w W → Calls Try.prog 42 #[.agg #[.bool x.a.v6, .int .u64 x.a.hi, .int .u64 x.a.lo], .agg #[.bool y.a.v6, .int .u64 y.a.hi, .int .u64 y.a.lo]] W fun e w' => e = .returned (.int .i64 (cmpA x.a y.a)) ∧ SEE x y w w') := Lib.hid fun W h => by
    have hc : Calls Try.prog 42 #[.agg #[.bool x.a.v6, .int .u64 x.a.hi, .int .u64 x.a.lo], .agg #[.bool y.a.v6, .int .u64 y.a.hi, .int .u64 y.a.lo]] W fun e w' => e = .returned (.int .i64 (cmpA x.a y.a)) ∧ Below W.heap.size W w' := rcompare_any x.a y.a W hx.1 hy.1
    exact hc.mono fun e w' ⟨he, hb⟩ => ⟨he, h.on hb⟩
  have hk0 : SEE x y w ((w.alloc (.cells #[.bool x.a.v6, .int .u64 x.a.hi, .int .u64 x.a.lo, .int .i64 x.n] 38)).alloc (.cells #[.bool y.a.v6, .int .u64 y.a.hi, .int .u64 y.a.lo, .int .i64 y.n] 38)) := SEE.of (Below.refl _ _)
  obtain ⟨c0, c1, c2, c3, c4, c5, c6, c7, hs⟩ := id hk0
  by_cases h0 : cmpA x.a y.a = 0
  · have e1 : (cmpA x.a y.a != 0) = false := by rw [bne_eq_false_iff_eq]; exact h0
    by_cases hn : x.n = y.n
    · have E : Hid (cmpE x y = cmpA x.a y.a) := Lib.hid (by unfold cmpE; rw [if_pos h0, h0, (cmpI_zero _ _).2 hn])
      have e2 : (x.n == y.n) = true := by rw [beq_iff_eq]; exact hn
      clear h0 hn
      go_enter Try.func32, Try.ntmps32
      go_wp2_with fail
      (with_reducible refine (K1.out _ hk0).mono ?_)
      rintro e w1 ⟨rfl, hk1⟩
      clear c0 c1 c2 c3 c4 c5 c6 c7 hs
      obtain ⟨c0, c1, c2, c3, c4, c5, c6, c7, hs⟩ := id hk1
      go_wp2_with fail
      go_ret
      exact ⟨ret_i E.out.symm, SEE.low hk1⟩
    · have e2 : (x.n == y.n) = false := by rw [beq_eq_false_iff_ne]; exact hn
      by_cases hl : x.n < y.n
      · have E : Hid (cmpE x y = -1) := Lib.hid (by unfold cmpE cmpI; rw [if_pos h0, if_pos hl])
        clear h0 hn
        go_enter Try.func32, Try.ntmps32
        go_wp2_with fail
        (with_reducible refine (K1.out _ hk0).mono ?_)
        rintro e w1 ⟨rfl, hk1⟩
        clear c0 c1 c2 c3 c4 c5 c6 c7 hs
        obtain ⟨c0, c1, c2, c3, c4, c5, c6, c7, hs⟩ := id hk1
        go_wp2_with fail
        go_ret
        exact ⟨ret_i E.out.symm, SEE.low hk1⟩
      · have E : Hid (cmpE x y = 1) := Lib.hid (by unfold cmpE cmpI; rw [if_pos h0, if_neg hl, if_pos (by omega)])
        clear h0 hn
        go_enter Try.func32, Try.ntmps32
        go_wp2_with fail
        (with_reducible refine (K1.out _ hk0).mono ?_)
        rintro e w1 ⟨rfl, hk1⟩
        clear c0 c1 c2 c3 c4 c5 c6 c7 hs
        obtain ⟨c0, c1, c2, c3, c4, c5, c6, c7, hs⟩ := id hk1
        go_wp2_with fail
        go_ret
        exact ⟨ret_i E.out.symm, SEE.low hk1⟩
  · have e1 : (cmpA x.a y.a != 0) = true := by rw [bne_iff_ne]; exact h0
    have E : Hid (cmpE x y = cmpA x.a y.a) := Lib.hid (by unfold cmpE; rw [if_neg h0])
    clear h0
    go_enter Try.func32, Try.ntmps32
    go_wp2_with fail
    (with_reducible refine (K1.out _ hk0).mono ?_)
    rintro e w1 ⟨rfl, hk1⟩
    clear c0 c1 c2 c3 c4 c5 c6 c7 hs
    obtain ⟨c0, c1, c2, c3, c4, c5, c6, c7, hs⟩ := id hk1
    go_wp2_with fail
    go_ret
    exact ⟨ret_i E.out.symm, SEE.low hk1⟩
end Go.Proofs.Ytlnbjkbbnhjkgaa.En
/- Contracts of the document's answers for layer 9: what is read. -/
namespace Go.Proofs.Ytlnbjkbbnhjkgaa.En
set_option maxRecDepth 100000
open Go.ChangeShapes Go.WideShapes Go.ChangeAt Go.RowKit
open Dec Words V4 V6 Ad
set_option linter.unusedVariables false
theorem split_at {l : List UInt8} {k : Nat} (h : k < l.length) {c : UInt8} (e : l[k] = c) : l.take k ++ c :: l.drop (k + 1) = l := by
  rw [← e, List.getElem_cons_drop, List.take_append_drop]
theorem good_ok {l : List UInt8} {k : Nat} (h : k < l.length) (e : l[k] = 58) (g1 : hostB (l.take k) = true) (g2 : portB (l.drop (k + 1)) = true) : okE l = true ∧ parseE l = ⟨parseA (inner (l.take k)), parN (l.drop (k + 1)) 65535⟩ := by
  have := okE_mid g1 g2
  rwa [split_at h e] at this
/-- Not at this place: no colon, or no host ahead of it, or no port behind it. -/
def off (l : List UInt8) (k : Nat) : Prop := ∀ h : k < l.length, l[k] = 58 → ¬ (hostB (l.take k) = true ∧ portB (l.drop (k + 1)) = true)
theorem mid_facts {l u v : List UInt8} (e : l = u ++ 58 :: v) : l[u.length]? = some 58 ∧ l.take u.length = u ∧ l.drop (u.length + 1) = v := by
  subst e
  refine ⟨?_, ?_, ?_⟩
  · rw [List.getElem?_append_right (Nat.le_refl _)]; simp
  · rw [List.take_append, List.take_of_length_le (Nat.le_refl _)]; simp
  · rw [List.drop_append, List.drop_of_length_le (by omega)]; simp
theorem bad_all {l : List UInt8} (h : ∀ k, k < l.length → off l k) : okE l = false := by
  rw [← Bool.not_eq_true]
  intro hk
  obtain ⟨h0, h1, h2⟩ := (okE_iff l).1 hk
  obtain ⟨e, hn⟩ := at_split h0
  have hle := at58_le l
  have hlt : (head58 l).length < l.length := by omega
  obtain ⟨g, t1, t2⟩ := mid_facts e
  rw [List.getElem?_eq_getElem hlt, Option.some.injEq] at g
  exact h _ hlt hlt g ⟨by rw [t1]; exact h1, by rw [t2]; exact h2⟩
theorem framed_take {l : List UInt8} {k : Nat} (h : k ≤ l.length) : framed (l.take k) = true ↔ 2 ≤ k ∧ l[0]? = some 91 ∧ l[k - 1]? = some 93 := by
  constructor
  · intro hf
    have h2 := framed_len hf
    rw [List.length_take] at h2
    unfold framed at hf
    rw [Bool.and_eq_true, beq_iff_eq, beq_iff_eq, List.head?_take, List.getLast?_take, if_neg (by omega), if_neg (by omega)] at hf
    refine ⟨by omega, by rw [← List.head?_eq_getElem?]; exact hf.1, ?_⟩
    have h3 := hf.2
    rw [List.getElem?_eq_getElem (by omega : k - 1 < l.length)] at h3 ⊢
    simpa using h3
  · rintro ⟨h2, h0, h1⟩
    unfold framed
    rw [Bool.and_eq_true, beq_iff_eq, beq_iff_eq, List.head?_take, List.getLast?_take, if_neg (by omega), if_neg (by omega), List.head?_eq_getElem?]
    refine ⟨h0, ?_⟩
    rw [h1]; rfl
theorem inner_take {l : List UInt8} {k : Nat} (h : k ≤ l.length) (hf : framed (l.take k) = true) : (l.take (k - 1)).drop 1 = inner (l.take k) := by
  have := inner_slice hf
  rw [List.length_take, List.take_take] at this
  rw [← this]
  congr 2; omega
theorem index_at (l : List UInt8) (k : Nat) (i : Int) (hi : i = (k : Int)) (h : k < l.length) (W : World) : (Instr.index 9 (.string ⟨l.toArray⟩) (.int .i64 i)).run Try.prog W = .ok (.int .u8 (l[k].toNat : Int)) W := by
  subst hi
  rw [run_index_string (h := Try.underlying9), dif_pos ⟨by omega, by rw [size_mk]; omega⟩]
  simp [ByteArray.getElem_eq_getElem_data]
theorem byte_on {x c : UInt8} {n : Int} (hn : (c.toNat : Int) = n) (h : x = c) : ((x.toNat : Int) == n) = true ∧ ((x.toNat : Int) != n) = false := by
  subst h hn; simp
theorem byte_no {x c : UInt8} {n : Int} (hn : (c.toNat : Int) = n) (h : x ≠ c) : ((x.toNat : Int) == n) = false ∧ ((x.toNat : Int) != n) = true := by
  have : ¬ ((x.toNat : Int) = n) := fun e => h (UInt8.toNat_inj.1 (by omega))
  refine ⟨?_, ?_⟩
  · rw [beq_eq_false_iff_ne]; exact this
  · rw [bne_iff_ne]; exact this
end Go.Proofs.Ytlnbjkbbnhjkgaa.En
