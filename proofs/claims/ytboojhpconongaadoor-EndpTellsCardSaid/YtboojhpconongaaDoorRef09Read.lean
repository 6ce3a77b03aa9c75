/- Contracts of the document's answers for layer 9: what is read. -/
import Derived.Test.YtboojhpconongaaDoorRef09
import Derived.Test.YtboojhpconongaaDoorEndpRead
namespace Go.Proofs.YtboojhpconongaaDoor.En
set_option maxRecDepth 100000
open Go.ChangeShapes Go.WideShapes Go.ChangeAt Go.RowKit
open Dec Words V4 V6 Ad
set_option linter.unusedVariables false
theorem split_at {l : List UInt8} {k : Nat} (h : k < l.length) {c : UInt8} (e : l[k] = c) : l.take k ++ c :: l.drop (k + 1) = l := by
  rw [← e, List.getElem_cons_drop, List.take_append_drop]
theorem good_ok {l : List UInt8} {k : Nat} (h : k < l.length) (e : l[k] = 58) (g1 : hostB (l.take k) = true) (g2 : portB (l.drop (k + 1)) = true) : okE l = true ∧ parseE l = ⟨parseA (inner (l.take k)), parN (l.drop (k + 1)) 65535⟩ := by
  have := okE_mid g1 g2
  rwa [split_at h e] at this
/-- Not at this place: no colon, or no host ahead of it, or no port behind it. -/
def off (l : List UInt8) (k : Nat) : Prop := ∀ h : k < l.length, l[k] = 58 → ¬ (hostB (l.take k) = true ∧ portB (l.drop (k + 1)) = true)
theorem mid_facts {l u v : List UInt8} (e : l = u ++ 58 :: v) : l[u.length]? = some 58 ∧ l.take u.length = u ∧ l.drop (u.length + 1) = v := by
  subst e
  refine ⟨?_, ?_, ?_⟩
  · rw [List.getElem?_append_right (Nat.le_refl _)]; simp
  · rw [List.take_append, List.take_of_length_le (Nat.le_refl _)]; simp
  · rw [List.drop_append, List.drop_of_length_le (by omega)]; simp
theorem bad_all {l : List UInt8} (h : ∀ k, k < l.length → off l k) : okE l = false := by
  rw [← Bool.not_eq_true]
  intro hk
  obtain ⟨h0, h1, h2⟩ := (okE_iff l).1 hk
  obtain ⟨e, hn⟩ := at_split h0
  have hle := at58_le l
  have hlt : (head58 l).length < l.length := by omega
  obtain ⟨g, t1, t2⟩ := mid_facts e
  rw [List.getElem?_eq_getElem hlt, Option.some.injEq] at g
  exact h _ hlt hlt g ⟨by rw [t1]; exact h1, by rw [t2]; exact h2⟩
theorem framed_take {l : List UInt8} {k : Nat} (h : k ≤ l.length) : framed (l.take k) = true ↔ 2 ≤ k ∧ l[0]? = some 91 ∧ l[k - 1]? = some 93 := by
  constructor
  · intro hf
    have h2 := framed_len hf
    rw [List.length_take] at h2
    unfold framed at hf
    rw [Bool.and_eq_true, beq_iff_eq, beq_iff_eq, List.head?_take, List.getLast?_take, if_neg (by omega), if_neg (by omega)] at hf
    refine ⟨by omega, by rw [← List.head?_eq_getElem?]; exact hf.1, ?_⟩
    have h3 := hf.2
    rw [List.getElem?_eq_getElem (by omega : k - 1 < l.length)] at h3 ⊢
    simpa using h3
  · rintro ⟨h2, h0, h1⟩
    unfold framed
    rw [Bool.and_eq_true, beq_iff_eq, beq_iff_eq, List.head?_take, List.getLast?_take, if_neg (by omega), if_neg (by omega), List.head?_eq_getElem?]
    refine ⟨h0, ?_⟩
    rw [h1]; rfl
theorem inner_take {l : List UInt8} {k : Nat} (h : k ≤ l.length) (hf : framed (l.take k) = true) : (l.take (k - 1)).drop 1 = inner (l.take k) := by
  have := inner_slice hf
  rw [List.length_take, List.take_take] at this
  rw [← this]
  congr 2; omega
theorem index_at (l : List UInt8) (k : Nat) (i : Int) (hi : i = (k : Int)) (h : k < l.length) (W : World) : (Instr.index 9 (.string ⟨l.toArray⟩) (.int .i64 i)).run Tryd.prog W = .ok (.int .u8 (l[k].toNat : Int)) W := by
  subst hi
  rw [run_index_string (h := Tryd.underlying9), dif_pos ⟨by omega, by rw [size_mk]; omega⟩]
  simp [ByteArray.getElem_eq_getElem_data]
theorem byte_on {x c : UInt8} {n : Int} (hn : (c.toNat : Int) = n) (h : x = c) : ((x.toNat : Int) == n) = true ∧ ((x.toNat : Int) != n) = false := by
  subst h hn; simp
theorem byte_no {x c : UInt8} {n : Int} (hn : (c.toNat : Int) = n) (h : x ≠ c) : ((x.toNat : Int) == n) = false ∧ ((x.toNat : Int) != n) = true := by
  have : ¬ ((x.toNat : Int) = n) := fun e => h (UInt8.toNat_inj.1 (by omega))
  refine ⟨?_, ?_⟩
  · rw [beq_eq_false_iff_ne]; exact this
  · rw [bne_iff_ne]; exact this
set_option maxHeartbeats 16000000 in
theorem rparseE_any (l : List UInt8) (w : World) (hl : l.length < 4294966000) : Calls Tryd.prog 8 #[.string ⟨l.toArray⟩] w (ParseE l w) := by
  have hsz := size_mk l
  go_enter Tryd.func8, Tryd.ntmps8
  go_wp2_with fail
  go_loopw [4] (fun i wr => ∃ k : Nat, k ≤ l.length ∧ i = .int .i64 k ∧ Hid (∀ j, j < k → off l j) ∧ Stays (w.alloc (.cells #[.bool false, .int .u64 0, .int .u64 0, .int .i64 0] 26)) wr) (fun i _ => l.length - (intOf i).toNat)
  case atStart => exact ⟨0, Nat.zero_le _, rfl, Lib.hid (fun j h => absurd h (Nat.not_lt_zero _)), Below.refl _ _⟩
  case round =>
    obtain ⟨k, hk, rfl, HN, hbel⟩ := hrel
    have hlow : Below w.heap.size w wr := ((Below.refl _ _).alloc (Nat.le_refl _) _).trans (hbel.mono (by simp))
    by_cases hlt : k < l.length
    · have IX := index_at l k (k : Int) rfl hlt
      by_cases hb : l[k] = 58
      · have hb1 := byte_on (n := 58) rfl hb
        have SD := fun W => slice_drop l (k + 1) (by omega) W
        rw [show ((k + 1 : Nat) : Int) = (k : Int) + 1 by omega] at SD
        have hdl : (l.drop (k + 1)).length ≤ l.length := by rw [List.length_drop]; omega
        have hbd := parN_bd (l.drop (k + 1)) 65535 (by omega) (by omega)
        have PB := Lib.hid (fun W => rparse_list (l.drop (k + 1)) 65535 W (by omega) (by omega) (by omega))
        unfold ParseEnd at PB
        cases hp : parB (l.drop (k + 1)) 65535
        · have OF : Hid (off l k) := Lib.hid (fun _ _ h => by have := h.2; unfold portB at this; rw [hp] at this; cases this)
          have HN2 : Hid (∀ j, j < k + 1 → off l j) := Lib.hid fun j hj => by
            rcases Nat.lt_succ_iff_lt_or_eq.1 hj with h | rfl
            · exact HN.out j h
            · exact OF.out
          rw [hp] at PB
          clear hp hb
          generalize parN (l.drop (k + 1)) 65535 = p at *
          go_wp2_with fail
          (with_reducible refine (PB.out _).mono ?_)
          rintro e w2 ⟨rfl, hb2⟩
          have hbel2 : Stays (w.alloc (.cells #[.bool false, .int .u64 0, .int .u64 0, .int .i64 0] 26)) w2 := low_trans hbel hb2
          go_wp2_with fail
          go_roundw
          case rel => exact ⟨k + 1, by omega, by go_num, HN2, hbel2⟩
          case measure => simp [intOf]; omega
        · by_cases hq : parN (l.drop (k + 1)) 65535 < 1
          · have OF : Hid (off l k) := Lib.hid (fun _ _ h => by have := ((portB_iff _).1 h.2).2; omega)
            have HN2 : Hid (∀ j, j < k + 1 → off l j) := Lib.hid fun j hj => by
              rcases Nat.lt_succ_iff_lt_or_eq.1 hj with h | rfl
              · exact HN.out j h
              · exact OF.out
            rw [hp] at PB
            clear hp hb
            generalize parN (l.drop (k + 1)) 65535 = p at *
            go_wp2_with fail
            (with_reducible refine (PB.out _).mono ?_)
            rintro e w2 ⟨rfl, hb2⟩
            have hbel2 : Stays (w.alloc (.cells #[.bool false, .int .u64 0, .int .u64 0, .int .i64 0] 26)) w2 := low_trans hbel hb2
            go_wp2_with fail
            go_roundw
            case rel => exact ⟨k + 1, by omega, by go_num, HN2, hbel2⟩
            case measure => simp [intOf]; omega
          · have hport : portB (l.drop (k + 1)) = true := (portB_iff _).2 ⟨hp, by omega⟩
            rw [hp] at PB
            clear hp
            have ST := fun W => slice_take l k hk W
            have htl : (l.take k).length ≤ l.length := List.length_take_le' _ _
            have P4 := Lib.hid (fun W => rparse4_any (l.take k) W (by omega))
            unfold Parse4 at P4
            have hn4 := num4_lt (l.take k)
            cases h4 : ok4 (l.take k)
            · by_cases h2 : k < 2
              · have OF : Hid (off l k) := Lib.hid (fun _ _ h => by have := host_no h4 (fun hf => absurd ((framed_take hk).1 hf) (by omega)); rw [this] at h; cases h.1)
                have HN2 : Hid (∀ j, j < k + 1 → off l j) := Lib.hid fun j hj => by
                  rcases Nat.lt_succ_iff_lt_or_eq.1 hj with h | rfl
                  · exact HN.out j h
                  · exact OF.out
                rw [h4] at P4
                clear h4 hb hport
                generalize parN (l.drop (k + 1)) 65535 = p at *
                generalize num4 (l.take k) = q at *
                go_wp2_with fail
                (with_reducible refine (PB.out _).mono ?_)
                rintro e w2 ⟨rfl, hb2⟩
                have hbel2 : Stays (w.alloc (.cells #[.bool false, .int .u64 0, .int .u64 0, .int .i64 0] 26)) w2 := low_trans hbel hb2
                go_wp2_with fail
                (with_reducible refine (P4.out _).mono ?_)
                rintro e w3 ⟨rfl, hb3⟩
                have hbel3 : Stays (w.alloc (.cells #[.bool false, .int .u64 0, .int .u64 0, .int .i64 0] 26)) w3 := low_trans hbel2 hb3
                go_wp2_with fail
                go_roundw
                case rel => exact ⟨k + 1, by omega, by go_num, HN2, hbel3⟩
                case measure => simp [intOf]; omega
              · have I0 := index_at l 0 0 rfl (by omega)
                by_cases b0 : l[0] = 91
                · have b1 := byte_on (n := 91) rfl b0
                  have I1 := index_at l (k - 1) ((k : Int) - 1) (by omega) (by omega)
                  by_cases b2 : l[k - 1] = 93
                  · have b3 := byte_on (n := 93) rfl b2
                    have hf : framed (l.take k) = true := (framed_take hk).2 ⟨by omega, by rw [List.getElem?_eq_getElem (by omega : 0 < l.length), b0], by rw [List.getElem?_eq_getElem (by omega : k - 1 < l.length), b2]⟩
                    have SM := fun W => slice_mid l 1 (k - 1) (by omega) (by omega) W
                    rw [inner_take hk hf, show ((k - 1 : Nat) : Int) = (k : Int) - 1 by omega, show ((1 : Nat) : Int) = 1 from rfl] at SM
                    have hil := inner_le (l.take k)
                    have P6 := Lib.hid (fun W => rparse6_any (inner (l.take k)) W (by omega))
                    unfold Parse6 at P6
                    have V6 := Lib.hid (fun W => rv6_any (hi6 (inner (l.take k))) (lo6 (inner (l.take k))) W (hi6_lt _) (lo6_lt _))
                    cases h6 : ok6 (inner (l.take k))
                    · have OF : Hid (off l k) := Lib.hid (fun _ _ h => by have := host_no h4 (fun _ => h6); rw [this] at h; cases h.1)
                      have HN2 : Hid (∀ j, j < k + 1 → off l j) := Lib.hid fun j hj => by
                        rcases Nat.lt_succ_iff_lt_or_eq.1 hj with h | rfl
                        · exact HN.out j h
                        · exact OF.out
                      rw [h6] at P6
                      rw [h4] at P4
                      clear h4 h6 hf b0 b2 hb hport
                      generalize parN (l.drop (k + 1)) 65535 = p at *
                      generalize num4 (l.take k) = q at *
                      generalize hi6 (inner (l.take k)) = hi at *
                      generalize lo6 (inner (l.take k)) = lo at *
                      go_wp2_with fail
                      (with_reducible refine (PB.out _).mono ?_)
                      rintro e w2 ⟨rfl, hb2⟩
                      have hbel2 : Stays (w.alloc (.cells #[.bool false, .int .u64 0, .int .u64 0, .int .i64 0] 26)) w2 := low_trans hbel hb2
                      go_wp2_with fail
                      (with_reducible refine (P4.out _).mono ?_)
                      rintro e w3 ⟨rfl, hb3⟩
                      have hbel3 : Stays (w.alloc (.cells #[.bool false, .int .u64 0, .int .u64 0, .int .i64 0] 26)) w3 := low_trans hbel2 hb3
                      go_wp2_with fail
                      (with_reducible refine (P6.out _).mono ?_)
                      rintro e w4 ⟨rfl, hb4⟩
                      have hbel4 : Stays (w.alloc (.cells #[.bool false, .int .u64 0, .int .u64 0, .int .i64 0] 26)) w4 := low_trans hbel3 hb4
                      go_wp2_with fail
                      go_roundw
                      case rel => exact ⟨k + 1, by omega, by go_num, HN2, hbel4⟩
                      case measure => simp [intOf]; omega
                    · have G := host_six hf h6
                      have E := good_ok hlt hb G.1 hport
                      rw [G.2] at E
                      have E1 := Lib.hid E.1
                      have E2 := Lib.hid E.2
                      clear E G
                      rw [h6] at P6
                      rw [h4] at P4
                      clear h4 h6 hf b0 b2 hb hport
                      generalize parN (l.drop (k + 1)) 65535 = p at *
                      generalize num4 (l.take k) = q at *
                      generalize hi6 (inner (l.take k)) = hi at *
                      generalize lo6 (inner (l.take k)) = lo at *
                      go_wp2_with fail
                      (with_reducible refine (PB.out _).mono ?_)
                      rintro e w2 ⟨rfl, hb2⟩
                      have hbel2 : Stays (w.alloc (.cells #[.bool false, .int .u64 0, .int .u64 0, .int .i64 0] 26)) w2 := low_trans hbel hb2
                      go_wp2_with fail
                      (with_reducible refine (P4.out _).mono ?_)
                      rintro e w3 ⟨rfl, hb3⟩
                      have hbel3 : Stays (w.alloc (.cells #[.bool false, .int .u64 0, .int .u64 0, .int .i64 0] 26)) w3 := low_trans hbel2 hb3
                      go_wp2_with fail
                      (with_reducible refine (P6.out _).mono ?_)
                      rintro e w4 ⟨rfl, hb4⟩
                      have hbel4 : Stays (w.alloc (.cells #[.bool false, .int .u64 0, .int .u64 0, .int .i64 0] 26)) w4 := low_trans hbel3 hb4
                      go_wp2_with fail
                      (with_reducible refine (V6.out _).mono ?_)
                      rintro e w5 ⟨rfl, hb5⟩
                      have hbel5 : Stays (w.alloc (.cells #[.bool false, .int .u64 0, .int .u64 0, .int .i64 0] 26)) w5 := low_trans hbel4 hb5
                      have hlow9 : Below w.heap.size w w5 := ((Below.refl _ _).alloc (Nat.le_refl _) _).trans (hbel5.mono (by simp))
                      obtain ⟨hc, hf⟩ := old (W := w.alloc (.cells #[.bool false, .int .u64 0, .int .u64 0, .int .i64 0] 26)) hbel5
                      go_wp2_with fail
                      exact bodyPost_ret (v := .tuple #[.agg #[.bool (v6A hi lo).v6, .int .u64 (v6A hi lo).hi, .int .u64 (v6A hi lo).lo, .int .i64 p], .bool true]) (by simp [results, Tryd.results8, go_sem, hc]) rfl (parseE_mk E2.out E1.out rfl (by repeat (first | exact hlow9 | refine Below.setCell ?_ (by first | (simp; done) | (simp; omega)) _ | refine Below.alloc ?_ (by first | (simp; done) | (simp; omega)) _)))
                  · have b3 := byte_no (n := 93) rfl b2
                    have OF : Hid (off l k) := Lib.hid (fun _ _ h => by have := host_no h4 (fun hf => absurd ((framed_take hk).1 hf) (by rintro ⟨_, _, h⟩; rw [List.getElem?_eq_getElem (by omega : k - 1 < l.length), Option.some.injEq] at h; exact b2 h)); rw [this] at h; cases h.1)
                    have HN2 : Hid (∀ j, j < k + 1 → off l j) := Lib.hid fun j hj => by
                      rcases Nat.lt_succ_iff_lt_or_eq.1 hj with h | rfl
                      · exact HN.out j h
                      · exact OF.out
                    rw [h4] at P4
                    clear h4 hb hport
                    generalize parN (l.drop (k + 1)) 65535 = p at *
                    generalize num4 (l.take k) = q at *
                    go_wp2_with fail
                    (with_reducible refine (PB.out _).mono ?_)
                    rintro e w2 ⟨rfl, hb2⟩
                    have hbel2 : Stays (w.alloc (.cells #[.bool false, .int .u64 0, .int .u64 0, .int .i64 0] 26)) w2 := low_trans hbel hb2
                    go_wp2_with fail
                    (with_reducible refine (P4.out _).mono ?_)
                    rintro e w3 ⟨rfl, hb3⟩
                    have hbel3 : Stays (w.alloc (.cells #[.bool false, .int .u64 0, .int .u64 0, .int .i64 0] 26)) w3 := low_trans hbel2 hb3
                    go_wp2_with fail
                    go_roundw
                    case rel => exact ⟨k + 1, by omega, by go_num, HN2, hbel3⟩
                    case measure => simp [intOf]; omega
                · have b1 := byte_no (n := 91) rfl b0
                  have OF : Hid (off l k) := Lib.hid (fun _ _ h => by have := host_no h4 (fun hf => absurd ((framed_take hk).1 hf) (by rintro ⟨_, h, _⟩; rw [List.getElem?_eq_getElem (by omega : 0 < l.length), Option.some.injEq] at h; exact b0 h)); rw [this] at h; cases h.1)
                  have HN2 : Hid (∀ j, j < k + 1 → off l j) := Lib.hid fun j hj => by
                    rcases Nat.lt_succ_iff_lt_or_eq.1 hj with h | rfl
                    · exact HN.out j h
                    · exact OF.out
                  rw [h4] at P4
                  clear h4 hb hport
                  generalize parN (l.drop (k + 1)) 65535 = p at *
                  generalize num4 (l.take k) = q at *
                  go_wp2_with fail
                  (with_reducible refine (PB.out _).mono ?_)
                  rintro e w2 ⟨rfl, hb2⟩
                  have hbel2 : Stays (w.alloc (.cells #[.bool false, .int .u64 0, .int .u64 0, .int .i64 0] 26)) w2 := low_trans hbel hb2
                  go_wp2_with fail
                  (with_reducible refine (P4.out _).mono ?_)
                  rintro e w3 ⟨rfl, hb3⟩
                  have hbel3 : Stays (w.alloc (.cells #[.bool false, .int .u64 0, .int .u64 0, .int .i64 0] 26)) w3 := low_trans hbel2 hb3
                  go_wp2_with fail
                  go_roundw
                  case rel => exact ⟨k + 1, by omega, by go_num, HN2, hbel3⟩
                  case measure => simp [intOf]; omega
            · have G := host_four h4
              have E := good_ok hlt hb G.1 hport
              rw [G.2] at E
              have E1 := Lib.hid E.1
              have E2 := Lib.hid E.2
              clear E G
              rw [h4] at P4
              clear h4 hb hport
              generalize parN (l.drop (k + 1)) 65535 = p at *
              generalize num4 (l.take k) = q at *
              go_wp2_with fail
              (with_reducible refine (PB.out _).mono ?_)
              rintro e w2 ⟨rfl, hb2⟩
              have hbel2 : Stays (w.alloc (.cells #[.bool false, .int .u64 0, .int .u64 0, .int .i64 0] 26)) w2 := low_trans hbel hb2
              go_wp2_with fail
              (with_reducible refine (P4.out _).mono ?_)
              rintro e w3 ⟨rfl, hb3⟩
              have hbel3 : Stays (w.alloc (.cells #[.bool false, .int .u64 0, .int .u64 0, .int .i64 0] 26)) w3 := low_trans hbel2 hb3
              have hlow9 : Below w.heap.size w w3 := ((Below.refl _ _).alloc (Nat.le_refl _) _).trans (hbel3.mono (by simp))
              obtain ⟨hc, hf⟩ := old (W := w.alloc (.cells #[.bool false, .int .u64 0, .int .u64 0, .int .i64 0] 26)) hbel3
              go_wp2_with fail
              exact bodyPost_ret (v := .tuple #[.agg #[.bool false, .int .u64 0, .int .u64 q, .int .i64 p], .bool true]) (by simp [results, Tryd.results8, go_sem, hc]) rfl (parseE_mk E2.out E1.out rfl (by repeat (first | exact hlow9 | refine Below.setCell ?_ (by first | (simp; done) | (simp; omega)) _ | refine Below.alloc ?_ (by first | (simp; done) | (simp; omega)) _)))
      · have OF : Hid (off l k) := Lib.hid (fun _ h => absurd h hb)
        have HN2 : Hid (∀ j, j < k + 1 → off l j) := Lib.hid fun j hj => by
          rcases Nat.lt_succ_iff_lt_or_eq.1 hj with h | rfl
          · exact HN.out j h
          · exact OF.out
        have hb1 := byte_no (n := 58) rfl hb
        clear hb
        go_wp2_with fail
        go_roundw
        case rel => exact ⟨k + 1, by omega, by go_num, HN2, hbel⟩
        case measure => simp [intOf]; omega
    · have E1 : Hid (okE l = false) := Lib.hid (bad_all fun j hj => HN.out j (by omega))
      have E2 := Lib.hid (parseE_no E1.out)
      obtain ⟨hc, hf⟩ := old (W := w.alloc (.cells #[.bool false, .int .u64 0, .int .u64 0, .int .i64 0] 26)) hbel
      go_wp2_with fail
      exact bodyPost_ret (v := .tuple #[.agg #[.bool false, .int .u64 0, .int .u64 0, .int .i64 0], .bool false]) (by simp [results, Tryd.results8, go_sem, hc]) rfl (parseE_mk E2.out E1.out rfl (by repeat (first | exact hlow | refine Below.setCell ?_ (by first | (simp; done) | (simp; omega)) _ | refine Below.alloc ?_ (by first | (simp; done) | (simp; omega)) _)))
end Go.Proofs.YtboojhpconongaaDoor.En
