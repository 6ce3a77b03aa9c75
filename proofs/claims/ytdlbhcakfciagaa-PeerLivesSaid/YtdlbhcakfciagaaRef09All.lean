/- Contracts of the document's answers for layer 9: who is right, texts, one order. -/
import Derived.Test.YtdlbhcakfciagaaEndpAll
import Derived.Test.YtdlbhcakfciagaaRef06All
namespace Go.Proofs.Ytdlbhcakfciagaa.En
set_option maxRecDepth 100000
open Go.ChangeShapes Go.WideShapes Go.ChangeAt Go.RowKit
open Dec Words V4 V6 Ad
set_option linter.unusedVariables false
set_option maxHeartbeats 2000000 in
theorem rrightE_any (x : Endp) (w : World) (hx : x.ok) :
    Calls Try.prog 21 #[.agg #[.bool x.a.v6, .int .u64 x.a.hi, .int .u64 x.a.lo, .int .i64 x.n]] w fun e w' => e = .returned (.bool (rightE x)) ∧ Below w.heap.size w w' := by
  have K1 : Hid (∀ W, SE x w W → Calls Try.prog 34 #[.agg #[.bool x.a.v6, .int .u64 x.a.hi, .int .u64 x.a.lo]] W fun e w' => e = .returned (.bool (rightA x.a)) ∧ SE x w w') := Lib.hid fun W h => by
    have hc : Calls Try.prog 34 #[.agg #[.bool x.a.v6, .int .u64 x.a.hi, .int .u64 x.a.lo]] W fun e w' => e = .returned (.bool (rightA x.a)) ∧ Below W.heap.size W w' := rright_any x.a W hx.1
    exact hc.mono fun e w' ⟨he, hb⟩ => ⟨he, h.on hb⟩
  have hk0 : SE x w (w.alloc (.cells #[.bool x.a.v6, .int .u64 x.a.hi, .int .u64 x.a.lo, .int .i64 x.n] 26)) := SE.of (Below.refl _ _)
  obtain ⟨c0, c1, c2, c3, hs⟩ := id hk0
  have E : Hid (rightE x = (rightA x.a && (decide (1 ≤ x.n) && decide (x.n ≤ 65535)))) := Lib.hid rfl
  cases hr : rightA x.a
  · rw [hr] at K1 E
    clear hr
    go_enter Try.func21, Try.ntmps21
    go_wp2_with fail
    (with_reducible refine (K1.out _ hk0).mono ?_)
    rintro e w1 ⟨rfl, hk1⟩
    clear c0 c1 c2 c3 hs
    obtain ⟨c0, c1, c2, c3, hs⟩ := id hk1
    go_wp2_with fail
    go_ret
    exact ⟨ret_b (by rw [E.out]; rfl), SE.low hk1⟩
  · rw [hr] at K1 E
    clear hr
    by_cases h1 : 1 ≤ x.n
    · have p1 : 0 < x.n := by omega
      by_cases h2 : x.n ≤ 65535
      · have p2 : x.n < 65536 := by omega
        go_enter Try.func21, Try.ntmps21
        go_wp2_with fail
        (with_reducible refine (K1.out _ hk0).mono ?_)
        rintro e w1 ⟨rfl, hk1⟩
        clear c0 c1 c2 c3 hs
        obtain ⟨c0, c1, c2, c3, hs⟩ := id hk1
        go_wp2_with fail
        go_ret
        exact ⟨ret_b (by rw [E.out, Bool.eq_iff_iff]; first | (simp; done) | (simp; omega)), SE.low hk1⟩
      · have p2 : ¬ x.n < 65536 := by omega
        go_enter Try.func21, Try.ntmps21
        go_wp2_with fail
        (with_reducible refine (K1.out _ hk0).mono ?_)
        rintro e w1 ⟨rfl, hk1⟩
        clear c0 c1 c2 c3 hs
        obtain ⟨c0, c1, c2, c3, hs⟩ := id hk1
        go_wp2_with fail
        go_ret
        exact ⟨ret_b (by rw [E.out, Bool.eq_iff_iff]; first | (simp; done) | (simp; omega)), SE.low hk1⟩
    · have p1 : ¬ 0 < x.n := by omega
      go_enter Try.func21, Try.ntmps21
      go_wp2_with fail
      (with_reducible refine (K1.out _ hk0).mono ?_)
      rintro e w1 ⟨rfl, hk1⟩
      clear c0 c1 c2 c3 hs
      obtain ⟨c0, c1, c2, c3, hs⟩ := id hk1
      go_wp2_with fail
      go_ret
      exact ⟨ret_b (by rw [E.out, Bool.eq_iff_iff]; first | (simp; done) | (simp; omega)), SE.low hk1⟩
set_option maxHeartbeats 4000000 in
theorem rtextE_any (x : Endp) (w : World) (hx : x.ok) :
    Calls Try.prog 30 #[.agg #[.bool x.a.v6, .int .u64 x.a.hi, .int .u64 x.a.lo, .int .i64 x.n]] w fun e w' => e = .returned (.string ⟨(textE x).toArray⟩) ∧ Below w.heap.size w w' := by
  have K1 : Hid (∀ W, SE x w W → Calls Try.prog 21 #[.agg #[.bool x.a.v6, .int .u64 x.a.hi, .int .u64 x.a.lo, .int .i64 x.n]] W fun e w' => e = .returned (.bool (rightE x)) ∧ SE x w w') := Lib.hid fun W h => by
    have hc : Calls Try.prog 21 #[.agg #[.bool x.a.v6, .int .u64 x.a.hi, .int .u64 x.a.lo, .int .i64 x.n]] W fun e w' => e = .returned (.bool (rightE x)) ∧ Below W.heap.size W w' := rrightE_any x W hx
    exact hc.mono fun e w' ⟨he, hb⟩ => ⟨he, h.on hb⟩
  have K2 : Hid (∀ W, SE x w W → Calls Try.prog 40 #[.agg #[.bool x.a.v6, .int .u64 x.a.hi, .int .u64 x.a.lo]] W fun e w' => e = .returned (.string ⟨(textA x.a).toArray⟩) ∧ SE x w w') := Lib.hid fun W h => by
    have hc : Calls Try.prog 40 #[.agg #[.bool x.a.v6, .int .u64 x.a.hi, .int .u64 x.a.lo]] W fun e w' => e = .returned (.string ⟨(textA x.a).toArray⟩) ∧ Below W.heap.size W w' := rtextA_any x.a W hx.1
    exact hc.mono fun e w' ⟨he, hb⟩ => ⟨he, h.on hb⟩
  have K3 : Hid (∀ W, SE x w W → Calls Try.prog 31 #[.int .i64 x.n] W fun e w' => e = .returned (.string ⟨(text x.n).toArray⟩) ∧ SE x w w') := Lib.hid fun W h => by
    have hc : Calls Try.prog 31 #[.int .i64 x.n] W fun e w' => e = .returned (.string ⟨(text x.n).toArray⟩) ∧ Below W.heap.size W w' := rtext_any x.n W hx.2.1 hx.2.2
    exact hc.mono fun e w' ⟨he, hb⟩ => ⟨he, h.on hb⟩
  have JD : Hid (∀ W, SE x w W → SE x w W.drew) := Lib.hid fun W h => SE.of (low_drewN h.2.2.2.2 1)
  have tl1 := textA_len x.a
  have tl2 := text_len x.n hx.2.1 hx.2.2
  have hk0 : SE x w (w.alloc (.cells #[.bool x.a.v6, .int .u64 x.a.hi, .int .u64 x.a.lo, .int .i64 x.n] 26)) := SE.of (Below.refl _ _)
  obtain ⟨c0, c1, c2, c3, hs⟩ := id hk0
  cases hr : rightE x
  · have E : Hid (textE x = [45]) := Lib.hid (textE_no hr)
    rw [hr] at K1
    clear hr
    go_enter Try.func30, Try.ntmps30
    go_wp2_with fail
    (with_reducible refine (K1.out _ hk0).mono ?_)
    rintro e w1 ⟨rfl, hk1⟩
    clear c0 c1 c2 c3 hs
    obtain ⟨c0, c1, c2, c3, hs⟩ := id hk1
    go_wp2_with fail
    go_ret
    exact ⟨ret_s (a := [45]) E.out.symm, SE.low hk1⟩
  · obtain ⟨v, hv⟩ : ∃ v, x.a.v6 = v := ⟨_, rfl⟩
    cases v
    · have E : Hid (textE x = textA x.a ++ 58 :: text x.n) := Lib.hid (by rw [textE_of hr]; unfold hostT; rw [hv]; simp)
      rw [hr] at K1
      have HV := Lib.hid hv
      clear hr hv
      generalize textA x.a = T at *
      generalize text x.n = D at *
      have g3 := fun W => add_is (a := T) (b := [58]) (c := T ++ [58]) (by simp) (by simp; omega) W
      have g4 := fun W => add_is (a := T ++ [58]) (b := D) (c := T ++ 58 :: D) (by simp) (by simp; omega) W
      clear tl1 tl2
      go_enter Try.func30, Try.ntmps30
      go_wp2_with fail
      (with_reducible refine (K1.out _ hk0).mono ?_)
      rintro e w1 ⟨rfl, hk1⟩
      clear c0 c1 c2 c3 hs
      obtain ⟨c0, c1, c2, c3, hs⟩ := id hk1
      have hv := HV.out
      go_wp2_with fail
      clear hv
      go_region_held3 (fun w' => w'.cell? ⟨w.heap.size, 0, none⟩ = some (.bool x.a.v6) ∧ w'.cell? ⟨w.heap.size, 1, none⟩ = some (.int .u64 x.a.hi) ∧ w'.cell? ⟨w.heap.size, 2, none⟩ = some (.int .u64 x.a.lo) ∧ w'.cell? ⟨w.heap.size, 3, none⟩ = some (.int .i64 x.n) ∧ Stays (w.alloc (.cells #[.bool x.a.v6, .int .u64 x.a.hi, .int .u64 x.a.lo, .int .i64 x.n] 26)) w')
        (first | assumption | exact JD.out _ ‹_›)
        (first
          | (go_at_call 40; (with_reducible refine (K2.out _ ‹_›).mono ?_); rintro e w9 ⟨rfl, hkw⟩)
          | (go_at_call 31; (with_reducible refine (K3.out _ ‹_›).mono ?_); rintro e w9 ⟨rfl, hkw⟩))
      all_goals (go_wp2; go_ret; exact ⟨ret_s E.out.symm, SE.low (‹SE x w _›)⟩)
    · have E : Hid (textE x = 91 :: (textA x.a ++ 93 :: 58 :: text x.n)) := Lib.hid (by rw [textE_of hr]; unfold hostT; rw [hv]; simp)
      rw [hr] at K1
      have HV := Lib.hid hv
      clear hr hv
      generalize textA x.a = T at *
      generalize text x.n = D at *
      have g1 := fun W => add_is (a := [91]) (b := T) (c := 91 :: T) (by simp) (by simp; omega) W
      have g2 := fun W => add_is (a := 91 :: T) (b := [93, 58]) (c := 91 :: (T ++ [93, 58])) (by simp) (by simp; omega) W
      have g4 := fun W => add_is (a := 91 :: (T ++ [93, 58])) (b := D) (c := 91 :: (T ++ 93 :: 58 :: D)) (by simp) (by simp; omega) W
      clear tl1 tl2
      go_enter Try.func30, Try.ntmps30
      go_wp2_with fail
      (with_reducible refine (K1.out _ hk0).mono ?_)
      rintro e w1 ⟨rfl, hk1⟩
      clear c0 c1 c2 c3 hs
      obtain ⟨c0, c1, c2, c3, hs⟩ := id hk1
      have hv := HV.out
      go_wp2_with fail
      clear hv
      go_region_held3 (fun w' => w'.cell? ⟨w.heap.size, 0, none⟩ = some (.bool x.a.v6) ∧ w'.cell? ⟨w.heap.size, 1, none⟩ = some (.int .u64 x.a.hi) ∧ w'.cell? ⟨w.heap.size, 2, none⟩ = some (.int .u64 x.a.lo) ∧ w'.cell? ⟨w.heap.size, 3, none⟩ = some (.int .i64 x.n) ∧ Stays (w.alloc (.cells #[.bool x.a.v6, .int .u64 x.a.hi, .int .u64 x.a.lo, .int .i64 x.n] 26)) w')
        (first | assumption | exact JD.out _ ‹_›)
        (first
          | (go_at_call 40; (with_reducible refine (K2.out _ ‹_›).mono ?_); rintro e w9 ⟨rfl, hkw⟩)
          | (go_at_call 31; (with_reducible refine (K3.out _ ‹_›).mono ?_); rintro e w9 ⟨rfl, hkw⟩))
      all_goals (go_wp2; go_ret; exact ⟨ret_s E.out.symm, SE.low (‹SE x w _›)⟩)
end Go.Proofs.Ytdlbhcakfciagaa.En
/- Contracts of the document's answers for layer 9: what is read. -/
namespace Go.Proofs.Ytdlbhcakfciagaa.En
set_option maxRecDepth 100000
open Go.ChangeShapes Go.WideShapes Go.ChangeAt Go.RowKit
open Dec Words V4 V6 Ad
set_option linter.unusedVariables false
theorem split_at {l : List UInt8} {k : Nat} (h : k < l.length) {c : UInt8} (e : l[k] = c) : l.take k ++ c :: l.drop (k + 1) = l := by
  rw [← e, List.getElem_cons_drop, List.take_append_drop]
theorem good_ok {l : List UInt8} {k : Nat} (h : k < l.length) (e : l[k] = 58) (g1 : hostB (l.take k) = true) (g2 : portB (l.drop (k + 1)) = true) : okE l = true ∧ parseE l = ⟨parseA (inner (l.take k)), parN (l.drop (k + 1)) 65535⟩ := by
  have := okE_mid g1 g2
  rwa [split_at h e] at this
/-- Not at this place: no colon, or no host ahead of it, or no port behind it. -/
def off (l : List UInt8) (k : Nat) : Prop := ∀ h : k < l.length, l[k] = 58 → ¬ (hostB (l.take k) = true ∧ portB (l.drop (k + 1)) = true)
theorem mid_facts {l u v : List UInt8} (e : l = u ++ 58 :: v) : l[u.length]? = some 58 ∧ l.take u.length = u ∧ l.drop (u.length + 1) = v := by
  subst e
  refine ⟨?_, ?_, ?_⟩
  · rw [List.getElem?_append_right (Nat.le_refl _)]; simp
  · rw [List.take_append, List.take_of_length_le (Nat.le_refl _)]; simp
  · rw [List.drop_append, List.drop_of_length_le (by omega)]; simp
theorem bad_all {l : List UInt8} (h : ∀ k, k < l.length → off l k) : okE l = false := by
  rw [← Bool.not_eq_true]
  intro hk
  obtain ⟨h0, h1, h2⟩ := (okE_iff l).1 hk
  obtain ⟨e, hn⟩ := at_split h0
  have hle := at58_le l
  have hlt : (head58 l).length < l.length := by omega
  obtain ⟨g, t1, t2⟩ := mid_facts e
  rw [List.getElem?_eq_getElem hlt, Option.some.injEq] at g
  exact h _ hlt hlt g ⟨by rw [t1]; exact h1, by rw [t2]; exact h2⟩
theorem framed_take {l : List UInt8} {k : Nat} (h : k ≤ l.length) : framed (l.take k) = true ↔ 2 ≤ k ∧ l[0]? = some 91 ∧ l[k - 1]? = some 93 := by
  constructor
  · intro hf
    have h2 := framed_len hf
    rw [List.length_take] at h2
    unfold framed at hf
    rw [Bool.and_eq_true, beq_iff_eq, beq_iff_eq, List.head?_take, List.getLast?_take, if_neg (by omega), if_neg (by omega)] at hf
    refine ⟨by omega, by rw [← List.head?_eq_getElem?]; exact hf.1, ?_⟩
    have h3 := hf.2
    rw [List.getElem?_eq_getElem (by omega : k - 1 < l.length)] at h3 ⊢
    simpa using h3
  · rintro ⟨h2, h0, h1⟩
    unfold framed
    rw [Bool.and_eq_true, beq_iff_eq, beq_iff_eq, List.head?_take, List.getLast?_take, if_neg (by omega), if_neg (by omega), List.head?_eq_getElem?]
    refine ⟨h0, ?_⟩
    rw [h1]; rfl
theorem inner_take {l : List UInt8} {k : Nat} (h : k ≤ l.length) (hf : framed (l.take k) = true) : (l.take (k - 1)).drop 1 = inner (l.take k) := by
  have := inner_slice hf
  rw [List.length_take, List.take_take] at this
  rw [← this]
  congr 2; omega
theorem index_at (l : List UInt8) (k : Nat) (i : Int) (hi : i = (k : Int)) (h : k < l.length) (W : World) : (Instr.index 9 (.string ⟨l.toArray⟩) (.int .i64 i)).run Try.prog W = .ok (.int .u8 (l[k].toNat : Int)) W := by
  subst hi
  rw [run_index_string (h := Try.underlying9), dif_pos ⟨by omega, by rw [size_mk]; omega⟩]
  simp [ByteArray.getElem_eq_getElem_data]
theorem byte_on {x c : UInt8} {n : Int} (hn : (c.toNat : Int) = n) (h : x = c) : ((x.toNat : Int) == n) = true ∧ ((x.toNat : Int) != n) = false := by
  subst h hn; simp
theorem byte_no {x c : UInt8} {n : Int} (hn : (c.toNat : Int) = n) (h : x ≠ c) : ((x.toNat : Int) == n) = false ∧ ((x.toNat : Int) != n) = true := by
  have : ¬ ((x.toNat : Int) = n) := fun e => h (UInt8.toNat_inj.1 (by omega))
  refine ⟨?_, ?_⟩
  · rw [beq_eq_false_iff_ne]; exact this
  · rw [bne_iff_ne]; exact this
end Go.Proofs.Ytdlbhcakfciagaa.En
