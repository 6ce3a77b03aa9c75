/- Contracts of package endp: what is read. -/
import Derived.Test.YtboojhpconongaaDoorEndp
import Derived.Lib.IndexAny
namespace Go.Proofs.YtboojhpconongaaDoor.En
set_option maxRecDepth 100000
open Go.ChangeShapes Go.WideShapes Go.ChangeAt Go.RowKit
open Dec Words V4 V6 Ad
set_option linter.unusedVariables false
theorem slice_take (l : List UInt8) (k : Nat) (h : k ≤ l.length) (W : World) : (Instr.slice 9 (.string ⟨l.toArray⟩) none (some (.int .i64 (k : Int))) none).run Tryd.prog W = .ok (.string ⟨(l.take k).toArray⟩) W := by
  rw [run_slice_string_h W 9 _ Tryd.underlying9 .i64 k (by omega) (by rw [size_mk]; omega), Int.toNat_natCast, slice_to]
theorem slice_drop (l : List UInt8) (k : Nat) (h : k ≤ l.length) (W : World) : (Instr.slice 9 (.string ⟨l.toArray⟩) (some (.int .i64 (k : Int))) none none).run Tryd.prog W = .ok (.string ⟨(l.drop k).toArray⟩) W := by
  rw [run_slice_string_l W 9 _ Tryd.underlying9 .i64 k (by omega) (by rw [size_mk]; omega), Int.toNat_natCast, size_mk, slice_from l k _ (Nat.le_refl _)]
theorem slice_mid (l : List UInt8) (a b : Nat) (h1 : a ≤ b) (h : b ≤ l.length) (W : World) : (Instr.slice 9 (.string ⟨l.toArray⟩) (some (.int .i64 (a : Int))) (some (.int .i64 (b : Int))) none).run Tryd.prog W = .ok (.string ⟨((l.take b).drop a).toArray⟩) W := by
  rw [run_slice_string W 9 _ .i64 .i64 a b Tryd.underlying9 (by omega) (by omega) (by rw [size_mk]; omega), Int.toNat_natCast, Int.toNat_natCast]
  rw [← str_same ((⟨l.toArray⟩ : ByteArray).extract a b), Lib.extract_data, str_back, List.drop_take]
theorem framed_lib (u : List UInt8) : framed u = (Lib.hasPrefix u [91] && Lib.hasSuffix u [93]) := by
  unfold framed
  congr 1
  · cases u with
    | nil => rfl
    | cons c r =>
      show (some c == some 91) = _
      by_cases h : c = 91
      · subst h; simp [Lib.hasPrefix]
      · rw [show (some c == some (91 : UInt8)) = false from by simpa using h]
        simp [Lib.hasPrefix, List.isPrefixOf]
        exact fun e => h e.symm
  · rcases List.eq_nil_or_concat u with rfl | ⟨q, d, rfl⟩
    · rfl
    · rw [List.concat_eq_append, List.getLast?_append]
      rw [Bool.eq_iff_iff]
      simp [Lib.hasSuffix, List.isSuffixOf, List.isPrefixOf]
      exact eq_comm
theorem lib_prefix (u : List UInt8) (W : World) : Calls Tryd.prog 34 #[.string ⟨u.toArray⟩, .string ⟨#[91]⟩] W fun e w' => e = .returned (.bool (Lib.hasPrefix u [91])) ∧ w' = W := by
  have h := Tryd.strings_HasPrefix ⟨u.toArray⟩ ⟨#[91]⟩ W
  exact h
theorem lib_suffix (u : List UInt8) (hu : u.length ≤ 9223372036854775807) (W : World) : Calls Tryd.prog 35 #[.string ⟨u.toArray⟩, .string ⟨#[93]⟩] W fun e w' => e = .returned (.bool (Lib.hasSuffix u [93])) ∧ w' = W := by
  have h := Tryd.strings_HasSuffix ⟨u.toArray⟩ ⟨#[93]⟩ W (by rw [size_mk]; exact hu)
  exact h
theorem lib_contains (u : List UInt8) (W : World) : Calls Tryd.prog 36 #[.string ⟨u.toArray⟩, .string ⟨#[58]⟩] W fun e w' => e = .returned (.bool (u.contains 58)) ∧ w' = W := by
  have h := Tryd.strings_Contains_one ⟨u.toArray⟩ 58 W
  simp only [← Lib.contains_iff_indexByte] at h
  exact h
theorem lib_last (l : List UInt8) (hl : l.length < 4611686018427387904) (W : World) : Calls Tryd.prog 15 #[.string ⟨l.toArray⟩, .string ⟨#[58]⟩] W fun e w' => e = .returned (.int .i64 ((at58 l : Int) - 1)) ∧ w' = W := by
  have h := Tryd.strings_LastIndex_one ⟨l.toArray⟩ ⟨#[58]⟩ rfl (by rw [size_mk]; exact hl) W
  have e : Lib.lastIndexByte ⟨l.toArray⟩ ((((⟨#[58]⟩ : ByteArray)[0]'(by decide)).toNat : Nat) : Int) = (at58 l : Int) - 1 := by
    have h2 := last_at l
    unfold at58
    show Lib.lastIndexByte ⟨l.toArray⟩ 58 = _
    omega
  rw [e] at h
  exact h
def hostA (u : List UInt8) : Adr := if hostB u then parseA (inner u) else ⟨false, 0, 0⟩
def HostE (u : List UInt8) (w : World) (e : Ending) (w' : World) : Prop := e = .returned (.tuple #[.agg #[.bool (hostA u).v6, .int .u64 (hostA u).hi, .int .u64 (hostA u).lo], .bool (hostB u)]) ∧ Below w.heap.size w w'
theorem host_mk {u : List UInt8} {w w' : World} {e : Ending} {a : Adr} {b : Bool} (ha : hostA u = a) (hb : hostB u = b) (he : e = .returned (.tuple #[.agg #[.bool a.v6, .int .u64 a.hi, .int .u64 a.lo], .bool b])) (h : Below w.heap.size w w') : HostE u w e w' := by
  subst ha hb; exact ⟨he, h⟩
theorem host_off {u : List UInt8} (h : (inner u).contains 58 = !framed u) : hostB u = false ∧ hostA u = ⟨false, 0, 0⟩ := by
  have e : hostB u = false := by unfold hostB; rw [h]; cases framed u <;> rfl
  exact ⟨e, by unfold hostA; rw [e]; rfl⟩
theorem host_on {u : List UInt8} (h : (inner u).contains 58 = framed u) : hostB u = okA (inner u) ∧ hostA u = parseA (inner u) := by
  have e : hostB u = okA (inner u) := by unfold hostB; rw [h]; simp
  refine ⟨e, ?_⟩
  unfold hostA
  rw [e]
  cases hk : okA (inner u)
  · rw [parseA_no hk]; rfl
  · rfl
theorem hostA_ok (u : List UInt8) : (hostA u).ok := by
  unfold hostA; split
  · exact parseA_ok _
  · exact ⟨by decide, by decide⟩
theorem inner_le (u : List UInt8) : (inner u).length ≤ u.length := by
  unfold inner; split
  · simp; omega
  · exact Nat.le_refl _
theorem framed_len {u : List UInt8} (h : framed u = true) : 2 ≤ u.length := by
  rcases u with _ | ⟨c, _ | ⟨d, r⟩⟩
  · cases h
  · unfold framed at h
    simp at h
    rw [h.1] at h; cases h.2
  · simp
theorem inner_slice {u : List UInt8} (h : framed u = true) : (u.take (u.length - 1)).drop 1 = inner u := by
  have h2 := framed_len h
  unfold inner
  rw [if_pos h, List.dropLast_eq_take, List.length_drop, List.drop_take]
set_option maxHeartbeats 4000000 in
theorem host_any (u : List UInt8) (w : World) (hu : u.length < 4294966000) (hL : Lens w) : Calls Tryd.prog 16 #[.string ⟨u.toArray⟩] w (HostE u w) := by
  have HP := Lib.hid (fun W => lib_prefix u W)
  have HS := Lib.hid (fun W => lib_suffix u (by omega) W)
  have hF := framed_lib u
  have hL0 := hL.below ((Below.refl w.heap.size w).alloc (Nat.le_refl _) (.cells #[.bool false, .int .u64 0, .int .u64 0] 24))
  cases hp : Lib.hasPrefix u [91]
  · rw [hp] at HP hF
    rw [Bool.false_and] at hF
    clear hp
    have hI : inner u = u := by unfold inner; rw [hF]; rfl
    have HC := Lib.hid (fun W => lib_contains u W)
    cases hc : u.contains 58
    · have E := host_on (u := u) (by rw [hI, hc, hF])
      rw [hI] at E
      have E1 := Lib.hid E.1
      have E2 := Lib.hid E.2
      clear E hF
      have PA := Lib.hid (parseA_any (u))
      unfold ParseA at PA
      rw [hc] at HC
      clear hc
      go_enter Tryd.func16, Tryd.ntmps16
      go_wp2_with fail
      (with_reducible refine (HP.out _).mono ?_)
      rintro e w1 ⟨rfl, rfl⟩
      go_wp2_with fail
      (with_reducible refine (HC.out _).mono ?_)
      rintro e w3 ⟨rfl, rfl⟩
      go_wp2_with fail
      (with_reducible refine (PA.out _ (by omega) hL0).mono ?_)
      rintro e w4 ⟨rfl, hb4⟩
      obtain ⟨hc4, hf4⟩ := old hb4
      go_wp2_with fail
      have low4 : Below w.heap.size w w4 := ((Below.refl _ _).alloc (Nat.le_refl _) _).trans (hb4.mono (by simp))
      exact bodyPost_ret (v := .tuple #[.agg #[.bool (parseA (u)).v6, .int .u64 (parseA (u)).hi, .int .u64 (parseA (u)).lo], .bool (okA (u))]) (by simp [results, Tryd.results16, go_sem, hc4]) rfl (host_mk E2.out E1.out rfl (by repeat (first | exact low4 | refine Below.setCell ?_ (by first | (simp; done) | (simp; omega)) _ | refine Below.alloc ?_ (by first | (simp; done) | (simp; omega)) _)))
    · have E := host_off (u := u) (by rw [hI, hc, hF]; rfl)
      have E1 := Lib.hid E.1
      have E2 := Lib.hid E.2
      clear E hF
      rw [hc] at HC
      clear hc
      go_enter Tryd.func16, Tryd.ntmps16
      go_wp2_with fail
      (with_reducible refine (HP.out _).mono ?_)
      rintro e w1 ⟨rfl, rfl⟩
      go_wp2_with fail
      (with_reducible refine (HC.out _).mono ?_)
      rintro e w3 ⟨rfl, rfl⟩
      go_wp2_with fail
      exact bodyPost_ret (v := .tuple #[.agg #[.bool false, .int .u64 0, .int .u64 0], .bool false]) (by simp [results, Tryd.results16, go_sem]) rfl (host_mk E2.out E1.out rfl (by repeat (first | exact Below.refl _ _ | refine Below.setCell ?_ (by first | (simp; done) | (simp; omega)) _ | refine Below.alloc ?_ (by first | (simp; done) | (simp; omega)) _)))
  · rw [hp] at HP hF
    rw [Bool.true_and] at hF
    clear hp
    cases hs : Lib.hasSuffix u [93]
    · rw [hs] at HS hF
      clear hs
      have hI : inner u = u := by unfold inner; rw [hF]; rfl
      have HC := Lib.hid (fun W => lib_contains u W)
      cases hc : u.contains 58
      · have E := host_on (u := u) (by rw [hI, hc, hF])
        rw [hI] at E
        have E1 := Lib.hid E.1
        have E2 := Lib.hid E.2
        clear E hF
        have PA := Lib.hid (parseA_any (u))
        unfold ParseA at PA
        rw [hc] at HC
        clear hc
        go_enter Tryd.func16, Tryd.ntmps16
        go_wp2_with fail
        (with_reducible refine (HP.out _).mono ?_)
        rintro e w1 ⟨rfl, rfl⟩
        go_wp2_with fail
        (with_reducible refine (HS.out _).mono ?_)
        rintro e w2 ⟨rfl, rfl⟩
        go_wp2_with fail
        (with_reducible refine (HC.out _).mono ?_)
        rintro e w3 ⟨rfl, rfl⟩
        go_wp2_with fail
        (with_reducible refine (PA.out _ (by omega) hL0).mono ?_)
        rintro e w4 ⟨rfl, hb4⟩
        obtain ⟨hc4, hf4⟩ := old hb4
        go_wp2_with fail
        have low4 : Below w.heap.size w w4 := ((Below.refl _ _).alloc (Nat.le_refl _) _).trans (hb4.mono (by simp))
        exact bodyPost_ret (v := .tuple #[.agg #[.bool (parseA (u)).v6, .int .u64 (parseA (u)).hi, .int .u64 (parseA (u)).lo], .bool (okA (u))]) (by simp [results, Tryd.results16, go_sem, hc4]) rfl (host_mk E2.out E1.out rfl (by repeat (first | exact low4 | refine Below.setCell ?_ (by first | (simp; done) | (simp; omega)) _ | refine Below.alloc ?_ (by first | (simp; done) | (simp; omega)) _)))
      · have E := host_off (u := u) (by rw [hI, hc, hF]; rfl)
        have E1 := Lib.hid E.1
        have E2 := Lib.hid E.2
        clear E hF
        rw [hc] at HC
        clear hc
        go_enter Tryd.func16, Tryd.ntmps16
        go_wp2_with fail
        (with_reducible refine (HP.out _).mono ?_)
        rintro e w1 ⟨rfl, rfl⟩
        go_wp2_with fail
        (with_reducible refine (HS.out _).mono ?_)
        rintro e w2 ⟨rfl, rfl⟩
        go_wp2_with fail
        (with_reducible refine (HC.out _).mono ?_)
        rintro e w3 ⟨rfl, rfl⟩
        go_wp2_with fail
        exact bodyPost_ret (v := .tuple #[.agg #[.bool false, .int .u64 0, .int .u64 0], .bool false]) (by simp [results, Tryd.results16, go_sem]) rfl (host_mk E2.out E1.out rfl (by repeat (first | exact Below.refl _ _ | refine Below.setCell ?_ (by first | (simp; done) | (simp; omega)) _ | refine Below.alloc ?_ (by first | (simp; done) | (simp; omega)) _)))
    · rw [hs] at HS hF
      clear hs
      have h2 := framed_len hF
      have hIl := inner_le u
      have HC := Lib.hid (fun W => lib_contains (inner u) W)
      have SL : ∀ W, (Instr.slice 9 (.string ⟨u.toArray⟩) (some (.int .i64 1)) (some (.int .i64 ((u.length : Int) - 1))) none).run Tryd.prog W = .ok (.string ⟨(inner u).toArray⟩) W := fun W => by
        have h := slice_mid u 1 (u.length - 1) (by omega) (by omega) W
        rw [inner_slice hF, show ((u.length - 1 : Nat) : Int) = (u.length : Int) - 1 by omega] at h
        exact h
      cases hc : (inner u).contains 58
      · have E := host_off (u := u) (by rw [hc, hF]; rfl)
        have E1 := Lib.hid E.1
        have E2 := Lib.hid E.2
        clear E hF
        rw [hc] at HC
        clear hc
        go_enter Tryd.func16, Tryd.ntmps16
        go_wp2_with fail
        (with_reducible refine (HP.out _).mono ?_)
        rintro e w1 ⟨rfl, rfl⟩
        go_wp2_with fail
        (with_reducible refine (HS.out _).mono ?_)
        rintro e w2 ⟨rfl, rfl⟩
        go_wp2_with fail
        (with_reducible refine (HC.out _).mono ?_)
        rintro e w3 ⟨rfl, rfl⟩
        go_wp2_with fail
        exact bodyPost_ret (v := .tuple #[.agg #[.bool false, .int .u64 0, .int .u64 0], .bool false]) (by simp [results, Tryd.results16, go_sem]) rfl (host_mk E2.out E1.out rfl (by repeat (first | exact Below.refl _ _ | refine Below.setCell ?_ (by first | (simp; done) | (simp; omega)) _ | refine Below.alloc ?_ (by first | (simp; done) | (simp; omega)) _)))
      · have E := host_on (u := u) (by rw [hc, hF])
        have E1 := Lib.hid E.1
        have E2 := Lib.hid E.2
        clear E hF
        have PA := Lib.hid (parseA_any (inner u))
        unfold ParseA at PA
        rw [hc] at HC
        clear hc
        go_enter Tryd.func16, Tryd.ntmps16
        go_wp2_with fail
        (with_reducible refine (HP.out _).mono ?_)
        rintro e w1 ⟨rfl, rfl⟩
        go_wp2_with fail
        (with_reducible refine (HS.out _).mono ?_)
        rintro e w2 ⟨rfl, rfl⟩
        go_wp2_with fail
        (with_reducible refine (HC.out _).mono ?_)
        rintro e w3 ⟨rfl, rfl⟩
        go_wp2_with fail
        (with_reducible refine (PA.out _ (by omega) hL0).mono ?_)
        rintro e w4 ⟨rfl, hb4⟩
        obtain ⟨hc4, hf4⟩ := old hb4
        go_wp2_with fail
        have low4 : Below w.heap.size w w4 := ((Below.refl _ _).alloc (Nat.le_refl _) _).trans (hb4.mono (by simp))
        exact bodyPost_ret (v := .tuple #[.agg #[.bool (parseA (inner u)).v6, .int .u64 (parseA (inner u)).hi, .int .u64 (parseA (inner u)).lo], .bool (okA (inner u))]) (by simp [results, Tryd.results16, go_sem, hc4]) rfl (host_mk E2.out E1.out rfl (by repeat (first | exact low4 | refine Below.setCell ?_ (by first | (simp; done) | (simp; omega)) _ | refine Below.alloc ?_ (by first | (simp; done) | (simp; omega)) _)))
def ParseE (l : List UInt8) (w : World) (e : Ending) (w' : World) : Prop := e = .returned (.tuple #[.agg #[.bool (parseE l).a.v6, .int .u64 (parseE l).a.hi, .int .u64 (parseE l).a.lo, .int .i64 (parseE l).n], .bool (okE l)]) ∧ Below w.heap.size w w'
theorem parseE_mk {l : List UInt8} {w w' : World} {e : Ending} {x : Endp} {b : Bool} (hx : parseE l = x) (hb : okE l = b) (he : e = .returned (.tuple #[.agg #[.bool x.a.v6, .int .u64 x.a.hi, .int .u64 x.a.lo, .int .i64 x.n], .bool b])) (h : Below w.heap.size w w') : ParseE l w e w' := by
  subst hx hb; exact ⟨he, h⟩
theorem okE_none {l : List UInt8} (h : at58 l = 0) : okE l = false := by unfold okE; simp [h]
theorem okE_host {l : List UInt8} (h : hostB (head58 l) = false) : okE l = false := by unfold okE; simp [h]
theorem okE_port {l : List UInt8} (h : portB (lastP l) = false) : okE l = false := by unfold okE; simp [h]
theorem okE_all {l : List UInt8} (h0 : at58 l ≠ 0) (h1 : hostB (head58 l) = true) (h2 : portB (lastP l) = true) : okE l = true ∧ parseE l = ⟨hostA (head58 l), parN (lastP l) 65535⟩ := by
  have e : okE l = true := (okE_iff l).2 ⟨h0, h1, h2⟩
  refine ⟨e, ?_⟩
  unfold parseE hostA; rw [e, h1]; rfl
theorem head58_le (l : List UInt8) : (head58 l).length ≤ l.length := by unfold head58; exact List.length_take_le' _ _
theorem right_port {u v : List UInt8} (h : hostB u = true) (hp : parB v 65535 = true) : rightE ⟨hostA u, parN v 65535⟩ = portB v := by
  have h1 : rightA (hostA u) = true := by unfold hostA; rw [if_pos h]; exact parseA_right (hostB_ok h)
  have h2 : parN v 65535 ≤ 65535 := by rw [parN_of hp]; exact ((parB_iff v 65535).1 hp).2
  unfold rightE portB
  simp [h1, hp, h2]
set_option maxHeartbeats 8000000 in
theorem parseE_any (l : List UInt8) (w : World) (hl : l.length < 4294966000) (hL : Lens w) : Calls Tryd.prog 7 #[.string ⟨l.toArray⟩] w (ParseE l w) := by
  have HL := Lib.hid (fun W => lib_last l (by omega) W)
  have hL0 := hL.below ((Below.refl w.heap.size w).alloc (Nat.le_refl _) (.cells #[.bool false, .int .u64 0, .int .u64 0, .int .i64 0] 26))
  by_cases h0 : at58 l = 0
  · have E1 := Lib.hid (okE_none h0)
    have E2 := Lib.hid (parseE_no E1.out)
    rw [h0] at HL
    clear h0
    go_enter Tryd.func7, Tryd.ntmps7
    go_wp2_with fail
    (with_reducible refine (HL.out _).mono ?_)
    rintro e w1 ⟨rfl, rfl⟩
    go_wp2_with fail
    exact bodyPost_ret (v := .tuple #[.agg #[.bool false, .int .u64 0, .int .u64 0, .int .i64 0], .bool false]) (by simp [results, Tryd.results7, go_sem]) rfl (parseE_mk E2.out E1.out rfl (by repeat (first | exact Below.refl _ _ | refine Below.setCell ?_ (by first | (simp; done) | (simp; omega)) _ | refine Below.alloc ?_ (by first | (simp; done) | (simp; omega)) _)))
  · obtain ⟨m, hm⟩ : ∃ m, at58 l = m + 1 := ⟨at58 l - 1, by omega⟩
    have hml := at58_le l
    rw [hm] at HL hml
    rw [show ((m + 1 : Nat) : Int) - 1 = (m : Int) by omega] at HL
    have S1 : ∀ W, (Instr.slice 9 (.string ⟨l.toArray⟩) none (some (.int .i64 (m : Int))) none).run Tryd.prog W = .ok (.string ⟨(head58 l).toArray⟩) W := fun W => by
      rw [slice_take l m (by omega) W]; unfold head58; rw [hm, Nat.add_sub_cancel]
    have S2 : ∀ W, (Instr.slice 9 (.string ⟨l.toArray⟩) (some (.int .i64 ((m : Int) + 1))) none none).run Tryd.prog W = .ok (.string ⟨(lastP l).toArray⟩) W := fun W => by
      have h := slice_drop l (m + 1) (by omega) W
      rw [← hm] at h
      unfold at58 at h
      rw [drop_last l] at h
      rw [← h, ← at58, hm]; rfl
    clear hm
    have hhl := head58_le l
    have hll := lastP_le l
    have hpb := parN_bd (lastP l) 65535 (by omega) (by omega)
    have HO := Lib.hid (host_any (head58 l))
    unfold HostE at HO
    have PB : Hid (∀ W, Calls Tryd.prog 17 #[.string ⟨(lastP l).toArray⟩, .int .i64 65535] W fun e w' => e = .returned (.tuple #[.int .i64 (parN (lastP l) 65535), .bool (parB (lastP l) 65535)]) ∧ Below W.heap.size W w') := Lib.hid fun W => (parse_list (lastP l) 65535 W (by omega) (by omega) (by omega)).mono fun e w' ⟨he, hw⟩ => ⟨he, by rw [← hw]; exact Below.refl _ _⟩
    cases hB : hostB (head58 l)
    · have E1 := Lib.hid (okE_host hB)
      have E2 := Lib.hid (parseE_no E1.out)
      have ha := hostA_ok (head58 l)
      rw [hB] at HO
      generalize hostA (head58 l) = a at *
      generalize parN (lastP l) 65535 = p at *
      clear hB h0 
      go_enter Tryd.func7, Tryd.ntmps7
      go_wp2_with fail
      (with_reducible refine (HL.out _).mono ?_)
      rintro e w0 ⟨rfl, rfl⟩
      go_wp2_with fail
      (with_reducible refine (HO.out _ (by omega) hL0).mono ?_)
      rintro e w1 ⟨rfl, hb1⟩
      have hB1 : Below w.heap.size w w1 := ((Below.refl _ _).alloc (Nat.le_refl _) _).trans (hb1.mono (by simp))
      go_wp2_with fail
      (with_reducible refine (PB.out _).mono ?_)
      rintro e w2 ⟨rfl, hb2⟩
      have hb12 := low_trans (hb1.alloc hb1.size (.cells #[.bool a.v6, .int .u64 a.hi, .int .u64 a.lo] 24)) hb2
      have hB2 : Below w.heap.size w w2 := ((Below.refl _ _).alloc (Nat.le_refl _) _).trans (hb12.mono (by simp))
      have zs : w.heap.size + 1 ≤ w2.heap.size := by have := hb12.size; simpa using this
      have z0 : w.heap.size < w2.heap.size := by omega
      have z1 : ¬ w.heap.size = w2.heap.size := by omega
      have z2 : ¬ w2.heap.size = w.heap.size := by omega
      clear zs
      have q0 : w2.cell? ⟨w1.heap.size, 0, none⟩ = some (.bool a.v6) := Ci.cells_left hb2 (by simp [go_sem])
      have q1 : w2.cell? ⟨w1.heap.size, 1, none⟩ = some (.int .u64 a.hi) := Ci.cells_left hb2 (by simp [go_sem])
      have q2 : w2.cell? ⟨w1.heap.size, 2, none⟩ = some (.int .u64 a.lo) := Ci.cells_left hb2 (by simp [go_sem])
      obtain ⟨hc2, hf2⟩ := old hb12
      go_wp2_with fail
      exact bodyPost_ret (v := .tuple #[.agg #[.bool false, .int .u64 0, .int .u64 0, .int .i64 0], .bool false]) (by simp [results, Tryd.results7, go_sem, hc2, z0]) rfl (parseE_mk E2.out E1.out rfl (by repeat (first | exact hB2 | refine Below.setCell ?_ (by first | (simp; done) | (simp; omega)) _ | refine Below.alloc ?_ (by first | (simp; done) | (simp; omega)) _)))
    · cases hp : parB (lastP l) 65535
      · have E1 := Lib.hid (okE_port (l := l) (by unfold portB; rw [hp]; rfl))
        have E2 := Lib.hid (parseE_no E1.out)
        have ha := hostA_ok (head58 l)
        rw [hB] at HO
        rw [hp] at PB
        generalize hostA (head58 l) = a at *
        generalize parN (lastP l) 65535 = p at *
        clear hB h0 hp
        go_enter Tryd.func7, Tryd.ntmps7
        go_wp2_with fail
        (with_reducible refine (HL.out _).mono ?_)
        rintro e w0 ⟨rfl, rfl⟩
        go_wp2_with fail
        (with_reducible refine (HO.out _ (by omega) hL0).mono ?_)
        rintro e w1 ⟨rfl, hb1⟩
        have hB1 : Below w.heap.size w w1 := ((Below.refl _ _).alloc (Nat.le_refl _) _).trans (hb1.mono (by simp))
        go_wp2_with fail
        (with_reducible refine (PB.out _).mono ?_)
        rintro e w2 ⟨rfl, hb2⟩
        have hb12 := low_trans (hb1.alloc hb1.size (.cells #[.bool a.v6, .int .u64 a.hi, .int .u64 a.lo] 24)) hb2
        have hB2 : Below w.heap.size w w2 := ((Below.refl _ _).alloc (Nat.le_refl _) _).trans (hb12.mono (by simp))
        have zs : w.heap.size + 1 ≤ w2.heap.size := by have := hb12.size; simpa using this
        have z0 : w.heap.size < w2.heap.size := by omega
        have z1 : ¬ w.heap.size = w2.heap.size := by omega
        have z2 : ¬ w2.heap.size = w.heap.size := by omega
        clear zs
        have q0 : w2.cell? ⟨w1.heap.size, 0, none⟩ = some (.bool a.v6) := Ci.cells_left hb2 (by simp [go_sem])
        have q1 : w2.cell? ⟨w1.heap.size, 1, none⟩ = some (.int .u64 a.hi) := Ci.cells_left hb2 (by simp [go_sem])
        have q2 : w2.cell? ⟨w1.heap.size, 2, none⟩ = some (.int .u64 a.lo) := Ci.cells_left hb2 (by simp [go_sem])
        obtain ⟨hc2, hf2⟩ := old hb12
        go_wp2_with fail
        exact bodyPost_ret (v := .tuple #[.agg #[.bool false, .int .u64 0, .int .u64 0, .int .i64 0], .bool false]) (by simp [results, Tryd.results7, go_sem, hc2, z0]) rfl (parseE_mk E2.out E1.out rfl (by repeat (first | exact hB2 | refine Below.setCell ?_ (by first | (simp; done) | (simp; omega)) _ | refine Below.alloc ?_ (by first | (simp; done) | (simp; omega)) _)))
      · cases hq : portB (lastP l)
        · have E1 := Lib.hid (okE_port (l := l) hq)
          have E2 := Lib.hid (parseE_no E1.out)
          have RI := Lib.hid (fun W => rightE_any ⟨hostA (head58 l), parN (lastP l) 65535⟩ W ⟨hostA_ok _, by simp only; omega, by simp only; omega⟩)
          rw [show rightE ⟨hostA (head58 l), parN (lastP l) 65535⟩ = false from by rw [right_port hB hp]; exact hq] at RI
          have ha := hostA_ok (head58 l)
          rw [hB] at HO
          rw [hp] at PB
          generalize hostA (head58 l) = a at *
          generalize parN (lastP l) 65535 = p at *
          clear hB h0 hp hq
          go_enter Tryd.func7, Tryd.ntmps7
          go_wp2_with fail
          (with_reducible refine (HL.out _).mono ?_)
          rintro e w0 ⟨rfl, rfl⟩
          go_wp2_with fail
          (with_reducible refine (HO.out _ (by omega) hL0).mono ?_)
          rintro e w1 ⟨rfl, hb1⟩
          have hB1 : Below w.heap.size w w1 := ((Below.refl _ _).alloc (Nat.le_refl _) _).trans (hb1.mono (by simp))
          go_wp2_with fail
          (with_reducible refine (PB.out _).mono ?_)
          rintro e w2 ⟨rfl, hb2⟩
          have hb12 := low_trans (hb1.alloc hb1.size (.cells #[.bool a.v6, .int .u64 a.hi, .int .u64 a.lo] 24)) hb2
          have hB2 : Below w.heap.size w w2 := ((Below.refl _ _).alloc (Nat.le_refl _) _).trans (hb12.mono (by simp))
          have zs : w.heap.size + 1 ≤ w2.heap.size := by have := hb12.size; simpa using this
          have z0 : w.heap.size < w2.heap.size := by omega
          have z1 : ¬ w.heap.size = w2.heap.size := by omega
          have z2 : ¬ w2.heap.size = w.heap.size := by omega
          clear zs
          have q0 : w2.cell? ⟨w1.heap.size, 0, none⟩ = some (.bool a.v6) := Ci.cells_left hb2 (by simp [go_sem])
          have q1 : w2.cell? ⟨w1.heap.size, 1, none⟩ = some (.int .u64 a.hi) := Ci.cells_left hb2 (by simp [go_sem])
          have q2 : w2.cell? ⟨w1.heap.size, 2, none⟩ = some (.int .u64 a.lo) := Ci.cells_left hb2 (by simp [go_sem])
          obtain ⟨hc2, hf2⟩ := old hb12
          go_wp2_with fail
          (with_reducible refine (RI.out _).mono ?_)
          rintro e w3 ⟨rfl, hb3⟩
          clear hc2 hf2 q0 q1 q2
          have hb13 := low_trans (hb12.alloc hb12.size (.cells #[.bool a.v6, .int .u64 a.hi, .int .u64 a.lo, .int .i64 p] 26)) hb3
          have hB3 : Below w.heap.size w w3 := ((Below.refl _ _).alloc (Nat.le_refl _) _).trans (hb13.mono (by simp))
          have k0 : w3.cell? ⟨w2.heap.size, 0, none⟩ = some (.bool a.v6) := Ci.cells_left hb3 (cell_new4 _ _ _ _ _ _).1
          have k1 : w3.cell? ⟨w2.heap.size, 1, none⟩ = some (.int .u64 a.hi) := Ci.cells_left hb3 (cell_new4 _ _ _ _ _ _).2.1
          have k2 : w3.cell? ⟨w2.heap.size, 2, none⟩ = some (.int .u64 a.lo) := Ci.cells_left hb3 (cell_new4 _ _ _ _ _ _).2.2.1
          have k3 : w3.cell? ⟨w2.heap.size, 3, none⟩ = some (.int .i64 p) := Ci.cells_left hb3 (cell_new4 _ _ _ _ _ _).2.2.2
          obtain ⟨hc3, hf3⟩ := old hb13
          go_wp2_with fail
          exact bodyPost_ret (v := .tuple #[.agg #[.bool false, .int .u64 0, .int .u64 0, .int .i64 0], .bool false]) (by simp [results, Tryd.results7, go_sem, hc3]) rfl (parseE_mk E2.out E1.out rfl (by repeat (first | exact hB3 | refine Below.setCell ?_ (by first | (simp; done) | (simp; omega)) _ | refine Below.alloc ?_ (by first | (simp; done) | (simp; omega)) _)))
        · have E := okE_all h0 hB hq
          have E1 := Lib.hid E.1
          have E2 := Lib.hid E.2
          clear E
          have RI := Lib.hid (fun W => rightE_any ⟨hostA (head58 l), parN (lastP l) 65535⟩ W ⟨hostA_ok _, by simp only; omega, by simp only; omega⟩)
          rw [show rightE ⟨hostA (head58 l), parN (lastP l) 65535⟩ = true from by rw [right_port hB hp]; exact hq] at RI
          have ha := hostA_ok (head58 l)
          rw [hB] at HO
          rw [hp] at PB
          generalize hostA (head58 l) = a at *
          generalize parN (lastP l) 65535 = p at *
          clear hB h0 hp hq
          go_enter Tryd.func7, Tryd.ntmps7
          go_wp2_with fail
          (with_reducible refine (HL.out _).mono ?_)
          rintro e w0 ⟨rfl, rfl⟩
          go_wp2_with fail
          (with_reducible refine (HO.out _ (by omega) hL0).mono ?_)
          rintro e w1 ⟨rfl, hb1⟩
          have hB1 : Below w.heap.size w w1 := ((Below.refl _ _).alloc (Nat.le_refl _) _).trans (hb1.mono (by simp))
          go_wp2_with fail
          (with_reducible refine (PB.out _).mono ?_)
          rintro e w2 ⟨rfl, hb2⟩
          have hb12 := low_trans (hb1.alloc hb1.size (.cells #[.bool a.v6, .int .u64 a.hi, .int .u64 a.lo] 24)) hb2
          have hB2 : Below w.heap.size w w2 := ((Below.refl _ _).alloc (Nat.le_refl _) _).trans (hb12.mono (by simp))
          have zs : w.heap.size + 1 ≤ w2.heap.size := by have := hb12.size; simpa using this
          have z0 : w.heap.size < w2.heap.size := by omega
          have z1 : ¬ w.heap.size = w2.heap.size := by omega
          have z2 : ¬ w2.heap.size = w.heap.size := by omega
          clear zs
          have q0 : w2.cell? ⟨w1.heap.size, 0, none⟩ = some (.bool a.v6) := Ci.cells_left hb2 (by simp [go_sem])
          have q1 : w2.cell? ⟨w1.heap.size, 1, none⟩ = some (.int .u64 a.hi) := Ci.cells_left hb2 (by simp [go_sem])
          have q2 : w2.cell? ⟨w1.heap.size, 2, none⟩ = some (.int .u64 a.lo) := Ci.cells_left hb2 (by simp [go_sem])
          obtain ⟨hc2, hf2⟩ := old hb12
          go_wp2_with fail
          (with_reducible refine (RI.out _).mono ?_)
          rintro e w3 ⟨rfl, hb3⟩
          clear hc2 hf2 q0 q1 q2
          have hb13 := low_trans (hb12.alloc hb12.size (.cells #[.bool a.v6, .int .u64 a.hi, .int .u64 a.lo, .int .i64 p] 26)) hb3
          have hB3 : Below w.heap.size w w3 := ((Below.refl _ _).alloc (Nat.le_refl _) _).trans (hb13.mono (by simp))
          have k0 : w3.cell? ⟨w2.heap.size, 0, none⟩ = some (.bool a.v6) := Ci.cells_left hb3 (cell_new4 _ _ _ _ _ _).1
          have k1 : w3.cell? ⟨w2.heap.size, 1, none⟩ = some (.int .u64 a.hi) := Ci.cells_left hb3 (cell_new4 _ _ _ _ _ _).2.1
          have k2 : w3.cell? ⟨w2.heap.size, 2, none⟩ = some (.int .u64 a.lo) := Ci.cells_left hb3 (cell_new4 _ _ _ _ _ _).2.2.1
          have k3 : w3.cell? ⟨w2.heap.size, 3, none⟩ = some (.int .i64 p) := Ci.cells_left hb3 (cell_new4 _ _ _ _ _ _).2.2.2
          obtain ⟨hc3, hf3⟩ := old hb13
          go_wp2_with fail
          exact bodyPost_ret (v := .tuple #[.agg #[.bool a.v6, .int .u64 a.hi, .int .u64 a.lo, .int .i64 p], .bool true]) (by simp [results, Tryd.results7, go_sem, hc3]) rfl (parseE_mk E2.out E1.out rfl (by repeat (first | exact hB3 | refine Below.setCell ?_ (by first | (simp; done) | (simp; omega)) _ | refine Below.alloc ?_ (by first | (simp; done) | (simp; omega)) _)))
end Go.Proofs.YtboojhpconongaaDoor.En
