/- Contracts of the document's answers for layer 2. -/
import Derived.Test.YtefkolkagebffaaGreatDoorKit
import Derived.Test.YtefkolkagebffaaGreatDoorMath
import Derived.Laws.IdiomStrings
namespace Go.Proofs.YtefkolkagebffaaGreatDoor.Dec
set_option maxRecDepth 100000
open Go.ChangeShapes Go.WideShapes Go.ChangeAt Go.RowKit
set_option linter.unusedVariables false
theorem rsize_any (n : Int) (w : World) (h0 : -9223372036854775808 ≤ n) (h1 : n ≤ 9223372036854775807) :
    Calls Tryz.prog 77 #[.int .i64 n] w fun e w' => e = .returned (.int .u64 (n.natAbs : Nat)) ∧ w = w' := by
  by_cases h : n < 0
  · obtain ⟨m, rfl⟩ : ∃ m : Nat, n = -(m : Int) := ⟨n.natAbs, by omega⟩
    go_enter Tryz.func77, Tryz.ntmps77
    go_wp2
    go_ret
    exact ⟨ret_i (by simp; omega), rfl⟩
  · go_enter Tryz.func77, Tryz.ntmps77
    go_wp2
    go_ret
    exact ⟨ret_i (by omega), rfl⟩
theorem one_byte (w : World) (x : Int) (c : UInt8) (hx : x = (c.toNat : Int)) :
    (convert 54 9 (.slice (some ⟨w.heap.size, 0, none⟩) 1 1)).run Tryz.prog (w.alloc (.cells #[.int .u8 x] 5)) = .ok (.string ⟨[c].toArray⟩) (w.alloc (.cells #[.int .u8 x] 5)) := by
  refine run_convert_bytes_back (P := Tryz.prog) (w.alloc (.cells #[.int .u8 x] 5)) 54 9 5 ⟨w.heap.size, 0, none⟩ 1 [c] Tryz.underlying54 Tryz.underlying5 Tryz.underlying9 ?_
  intro j hj
  obtain rfl : j = 0 := by simp at hj; exact hj
  subst hx
  rw [show (⟨w.heap.size, 0, none⟩ : Addr).add 0 = ⟨w.heap.size, 0, none⟩ from rfl, World.cell?_alloc_mark]
  rfl
theorem digit_dec (n : Nat) : (48 + (n : Int) % 10) = ((digit (n % 10)).toNat : Int) := by
  have h : n % 10 < 10 := Nat.mod_lt _ (by omega)
  have : ∀ d : Fin 10, (digit d.val).toNat = 48 + d.val := by decide
  have := this ⟨n % 10, h⟩
  simp only [] at this
  omega
theorem digits_any (k : Nat) : ∀ (n : Int) (w : World), n ≤ k → 0 ≤ n → n ≤ 18446744073709551615 →
    Calls Tryz.prog 67 #[.int .u64 n] w fun e w' => e = .returned (.string ⟨(digs 10 n.toNat).toArray⟩) ∧ Below w.heap.size w w' := by
  induction k with
  | zero =>
    intro n w hk h0 h1
    have h2 : n < 10 := by omega
    have ho := one_byte w (48 + n % 10) (digit (n.toNat % 10)) (by have := digit_dec n.toNat; rw [show ((n.toNat : Nat) : Int) = n by omega] at this; exact this)
    go_enter Tryz.func67, Tryz.ntmps67
    go_wp2_with fail
    go_ret
    exact ⟨ret_s (by rw [digs_lo (by omega), Nat.mod_eq_of_lt (by omega)]), (Below.refl _ _).alloc (Nat.le_refl _) _⟩
  | succ k ih =>
    intro n w hk h0 h1
    have ho := one_byte w (48 + n % 10) (digit (n.toNat % 10)) (by have := digit_dec n.toNat; rw [show ((n.toNat : Nat) : Int) = n by omega] at this; exact this)
    by_cases h2 : n < 10
    · clear ih
      go_enter Tryz.func67, Tryz.ntmps67
      go_wp2_with fail
      go_ret
      exact ⟨ret_s (by rw [digs_lo (by omega), Nat.mod_eq_of_lt (by omega)]), (Below.refl _ _).alloc (Nat.le_refl _) _⟩
    · have IH := Lib.hid ih
      clear ih
      have hl := digs_len (b := 10) (by omega) 19 (n / 10).toNat (by have : (10 : Nat) ^ 20 = 100000000000000000000 := by decide
                                                                     omega)
      go_enter Tryz.func67, Tryz.ntmps67
      go_wp2_with fail
      refine (IH.out (n / 10) _ (by omega) (by omega) (by omega)).mono ?_
      rintro e w' ⟨rfl, hb⟩
      go_wp2_with fail
      go_ret
      have HF : digs 10 n.toNat = digs 10 (n / 10).toNat ++ [digit (n.toNat % 10)] := by
        have := digs_hi (b := 10) (n := n.toNat) (by omega) (by omega)
        rw [show n.toNat / 10 = (n / 10).toNat by omega] at this
        exact this
      exact ⟨by rw [HF, ← ByteArray.mk_append_mk]; rfl, ((Below.refl _ _).alloc (Nat.le_refl _) _).trans (hb.mono (by simp))⟩
theorem rtext_any (n : Int) (w : World) (h0 : -9223372036854775808 ≤ n) (h1 : n ≤ 9223372036854775807) :
    Calls Tryz.prog 45 #[.int .i64 n] w fun e w' => e = .returned (.string ⟨(text n).toArray⟩) ∧ Below w.heap.size w w' := by
  have hl := digs_len (b := 10) (by omega) 19 n.natAbs (by have : (10 : Nat) ^ 20 = 100000000000000000000 := by decide
                                                           omega)
  have ha : n.natAbs ≤ 9223372036854775808 := by omega
  by_cases h : n < 0
  · go_enter Tryz.func45, Tryz.ntmps45
    go_wp2_with fail
    refine (rsize_any _ _ h0 h1).mono ?_
    rintro e w' ⟨rfl, rfl⟩
    go_wp2_with fail
    refine (digits_any n.natAbs _ _ (by omega) (by omega) (by omega)).mono ?_
    rintro e w' ⟨rfl, hb⟩
    rw [Int.toNat_natCast]
    go_wp2
    go_ret
    exact ⟨cat_s (a := [45]) (by unfold text; rw [if_pos h]; rfl), hb⟩
  · go_enter Tryz.func45, Tryz.ntmps45
    go_wp2_with fail
    refine (rsize_any _ _ h0 h1).mono ?_
    rintro e w' ⟨rfl, rfl⟩
    go_wp2_with fail
    refine (digits_any n.natAbs _ _ (by omega) (by omega) (by omega)).mono ?_
    rintro e w' ⟨rfl, hb⟩
    rw [Int.toNat_natCast]
    go_wp2
    go_ret
    exact ⟨ret_s (by unfold text; rw [if_neg (by omega)]), hb⟩
end Go.Proofs.YtefkolkagebffaaGreatDoor.Dec
/- Contracts of the document's answers for layer 2: what is read. -/
namespace Go.Proofs.YtefkolkagebffaaGreatDoor.Dec
set_option maxRecDepth 100000
open Go.ChangeShapes Go.WideShapes Go.ChangeAt Go.RowKit
set_option linter.unusedVariables false
def ParseEnd (l : List UInt8) (most : Int) (w : World) (e : Ending) (w' : World) : Prop := e = .returned (.tuple #[.int .i64 (parN l most), .bool (parB l most)]) ∧ Below w.heap.size w w'
theorem parseEnd_no {l : List UInt8} {most : Int} {w w' : World} {e : Ending} (h : parB l most = false) (he : e = .returned (.tuple #[.int .i64 0, .bool false])) (hb : Below w.heap.size w w') : ParseEnd l most w e w' :=
  ⟨by rw [parN_no h, h]; exact he, hb⟩
theorem parseEnd_yes {l : List UInt8} {most : Int} {w w' : World} {e : Ending} (h : parB l most = true) (he : e = .returned (.tuple #[.int .i64 (valb 10 l : Nat), .bool true])) (hb : Below w.heap.size w w') : ParseEnd l most w e w' :=
  ⟨by rw [parN_of h, h]; exact he, hb⟩
set_option maxHeartbeats 2000000 in
theorem rparse_any (s : ByteArray) (most : Int) (w : World) (hs : s.size ≤ 9223372036854775807) (hm : -9223372036854775808 ≤ most) (hm2 : most ≤ 9223372036854775807) :
    Calls Tryz.prog 37 #[.string s, .int .i64 most] w (ParseEnd s.data.toList most w) := by
  by_cases h0 : s.size < 1
  · have E1 := Lib.hid (parB_nil most (List.eq_nil_of_length_eq_zero (by rw [len_size]; omega)) : parB s.data.toList most = false)
    go_enter Tryz.func37, Tryz.ntmps37
    go_wp2
    go_ret2
    exact parseEnd_no E1.out rfl (Below.refl _ _)
  · by_cases h4 : s.size > 19
    · have E1 := Lib.hid (parB_long (by rw [len_size]; omega) hm2 : parB s.data.toList most = false)
      go_enter Tryz.func37, Tryz.ntmps37
      go_wp2
      go_ret2
      exact parseEnd_no E1.out rfl (Below.refl _ _)
    · go_enter Tryz.func37, Tryz.ntmps37
      go_wp2
      go_loop [6, 7] (fun n i => ∃ k v : Nat, k ≤ s.size ∧ i = .int .i64 k ∧ n = .int .u64 v ∧ v < 10000000000000000000 ∧ Hid (v = valb 10 (s.data.toList.take k)) ∧ Hid (∀ c ∈ s.data.toList.take k, dv c < 10)) (fun _ i => s.size - (intOf i).toNat)
      case atStart => exact ⟨0, 0, Nat.zero_le _, rfl, rfl, by omega, Lib.hid rfl, Lib.hid (by simp)⟩
      case round =>
        obtain ⟨k, v, hk, rfl, rfl, hv, HV, HA⟩ := hrel
        by_cases hlt : k < s.size
        · have hts := take_snoc s k hlt
          by_cases c1 : s[k].toNat < 48
          · have E1 := Lib.hid (parB_bad most (byte_mem s k hlt) (by have := dv_dec s[k]; omega) : parB s.data.toList most = false)
            clear hts
            go_wp2
            go_ret2
            exact parseEnd_no E1.out rfl (Below.refl _ _)
          · by_cases c2 : 57 < s[k].toNat
            · have E1 := Lib.hid (parB_bad most (byte_mem s k hlt) (by have := dv_dec s[k]; omega) : parB s.data.toList most = false)
              clear hts
              go_wp2
              go_ret2
              exact parseEnd_no E1.out rfl (Below.refl _ _)
            · have hdv := dv_of (c := s[k]) (by omega) (by omega)
              have hvt : valb 10 (s.data.toList.take (k + 1)) = 10 * v + (s[k].toNat - 48) := by rw [hts, valb_snoc, ← HV.out, hdv]; omega
              have HA2 := Lib.hid (show ∀ c ∈ s.data.toList.take (k + 1), dv c < 10 by
                rw [hts]; intro c hc
                rcases List.mem_append.1 hc with hc | hc
                · exact HA.out c hc
                · simp at hc; rw [hc, hdv]; omega)
              have hvb : 10 * v + (s[k].toNat - 48) < 10000000000000000000 := by
                rw [← hvt]; exact val_lt19 HA2.out (by have := List.length_take_le (k + 1) s.data.toList; have := List.length_take_le' (k + 1) s.data.toList; have := len_size s; omega)
              have HT := Lib.hid hvt
              clear hts hvt hdv
              go_wp2
              go_round
              case rel => exact ⟨k + 1, 10 * v + (s[k].toNat - 48), by omega, by go_num, by go_num, by omega, Lib.hid HT.out.symm, HA2⟩
              case measure => simp [intOf]; omega
        · have hV := HV.out
          rw [List.take_of_length_le (by rw [len_size]; omega)] at hV
          subst hV
          by_cases c3 : most < 0
          · have E1 := Lib.hid (parB_more (by omega) : parB s.data.toList most = false)
            go_wp2
            go_ret2
            exact parseEnd_no E1.out rfl (Below.refl _ _)
          · by_cases c4 : most < (valb 10 s.data.toList : Nat)
            · have E1 := Lib.hid (parB_more c4 : parB s.data.toList most = false)
              go_wp2
              go_ret2
              exact parseEnd_no E1.out rfl (Below.refl _ _)
            · by_cases c5 : digs 10 (valb 10 s.data.toList) = s.data.toList
              · have E1 := Lib.hid (parB_same c5 (by omega) : parB s.data.toList most = true)
                have hq : (digs 10 (valb 10 s.data.toList) == s.toList) = true := by rw [ByteArray.toList_eq]; simpa using c5
                clear c5
                go_wp2_with fail
                refine (digits_any (valb 10 s.data.toList) _ _ (by omega) (by omega) (by omega)).mono ?_
                rintro e w' ⟨rfl, hb⟩
                rw [Int.toNat_natCast]
                go_wp2
                go_ret2
                exact parseEnd_yes E1.out rfl hb
              · have E1 := Lib.hid (parB_digs c5 : parB s.data.toList most = false)
                have hq : (digs 10 (valb 10 s.data.toList) == s.toList) = false := by rw [ByteArray.toList_eq]; simpa using c5
                clear c5
                go_wp2_with fail
                refine (digits_any (valb 10 s.data.toList) _ _ (by omega) (by omega) (by omega)).mono ?_
                rintro e w' ⟨rfl, hb⟩
                rw [Int.toNat_natCast]
                go_wp2
                go_ret2
                exact parseEnd_no E1.out rfl hb
end Go.Proofs.YtefkolkagebffaaGreatDoor.Dec
/- Contract of the document's answers for layer 2: where a byte stands. -/
namespace Go.Proofs.YtefkolkagebffaaGreatDoor.Dec
set_option maxRecDepth 100000
open Go.ChangeShapes Go.WideShapes Go.ChangeAt Go.RowKit
set_option linter.unusedVariables false
/-- Where a byte stands first; -1 if nowhere. -/
def placeI (l : List UInt8) (c : UInt8) : Int := if c ∈ l then (l.idxOf c : Int) else -1
theorem placeI_at (s : ByteArray) (c : UInt8) (k : Nat) (h : k < s.size) (hn : ¬ c ∈ s.data.toList.take k) (hc : s[k] = c) : placeI s.data.toList c = k := by
  have e : s.data.toList = s.data.toList.take k ++ s.data.toList.drop k := (List.take_append_drop _ _).symm
  have hd : s.data.toList.drop k = c :: s.data.toList.drop (k + 1) := by
    rw [List.drop_eq_getElem_cons (by rw [len_size]; exact h), byte_get s k h, hc]
  unfold placeI
  have hm : c ∈ s.data.toList := by rw [← hc]; exact byte_mem s k h
  rw [if_pos hm]
  have : s.data.toList.idxOf c = k := by
    rw [e, List.idxOf_append, if_neg hn, hd]
    simp
    have := len_size s
    omega
  omega
theorem place_any (s : ByteArray) (c : UInt8) (w : World) (hs : s.size ≤ 9223372036854775807) :
    Calls Tryz.prog 139 #[.string s, .int .u8 (c.toNat : Int)] w fun e w' => e = .returned (.int .i64 (placeI s.data.toList c)) ∧ w = w' := by
  go_enter Tryz.func139, Tryz.ntmps139
  go_wp2
  go_loop [5] (fun i => ∃ k : Nat, k ≤ s.size ∧ i = .int .i64 k ∧ Hid (¬ c ∈ s.data.toList.take k)) (fun i => s.size - (intOf i).toNat)
  case atStart => exact ⟨0, Nat.zero_le _, rfl, Lib.hid (by simp)⟩
  case round =>
    obtain ⟨k, hk, rfl, HN⟩ := hrel
    by_cases hlt : k < s.size
    · by_cases hc : s[k] = c
      · have E := Lib.hid (placeI_at s c k hlt HN.out hc)
        have hb : ((s[k].toNat : Int) == (c.toNat : Int)) = true := by rw [hc]; simp
        clear hc
        go_wp2
        go_ret
        exact ⟨ret_i E.out.symm, rfl⟩
      · have hb : ((s[k].toNat : Int) == (c.toNat : Int)) = false := by
          rw [beq_eq_false_iff_ne]; intro e
          exact hc (UInt8.toNat_inj.1 (by omega))
        have HN2 : Hid (¬ c ∈ s.data.toList.take (k + 1)) := by
          rw [take_snoc s k hlt]; intro h
          rcases List.mem_append.1 h with h | h
          · exact HN.out h
          · simp at h; exact hc h.symm
        clear hc
        go_wp2
        go_round
        case rel => exact ⟨k + 1, by omega, by go_num, HN2⟩
        case measure => simp [intOf]; omega
    · have E : Hid (placeI s.data.toList c = -1) := by
        have := HN.out
        rw [List.take_of_length_le (by rw [len_size]; omega)] at this
        unfold placeI; exact if_neg this
      go_wp2
      go_ret
      exact ⟨ret_i E.out.symm, rfl⟩
end Go.Proofs.YtefkolkagebffaaGreatDoor.Dec
/- Contracts of the document's answers for layer 2: base 16. -/
namespace Go.Proofs.YtefkolkagebffaaGreatDoor.Dec
set_option maxRecDepth 100000
open Go.ChangeShapes Go.WideShapes Go.ChangeAt Go.RowKit
set_option linter.unusedVariables false
def lowI (c : UInt8) : Int := if dv c < 16 ∧ ¬ (65 ≤ c.toNat ∧ c.toNat ≤ 70) then dv c else -1
def upI (c : UInt8) : Int := if dv c < 16 ∧ ¬ (97 ≤ c.toNat ∧ c.toNat ≤ 102) then dv c else -1
theorem byteAll (P : UInt8 → Prop) (h : ∀ d : Fin 256, P (UInt8.ofNat d.val)) (c : UInt8) : P c := by
  have h1 := h ⟨c.toNat, c.toNat_lt⟩
  simp only [UInt8.ofNat_toNat] at h1
  exact h1
theorem place_low (c : UInt8) : placeI [48, 49, 50, 51, 52, 53, 54, 55, 56, 57, 97, 98, 99, 100, 101, 102] c = lowI c :=
  byteAll (fun c => placeI [48, 49, 50, 51, 52, 53, 54, 55, 56, 57, 97, 98, 99, 100, 101, 102] c = lowI c) (by decide +kernel) c
theorem place_up (c : UInt8) : placeI [48, 49, 50, 51, 52, 53, 54, 55, 56, 57, 65, 66, 67, 68, 69, 70] c = upI c :=
  byteAll (fun c => placeI [48, 49, 50, 51, 52, 53, 54, 55, 56, 57, 65, 66, 67, 68, 69, 70] c = upI c) (by decide +kernel) c
theorem low_yes {c : UInt8} (h : 0 ≤ lowI c) : lowI c = dv c ∧ dv c < 16 := by
  unfold lowI at h ⊢
  by_cases h1 : dv c < 16 ∧ ¬ (65 ≤ c.toNat ∧ c.toNat ≤ 70)
  · rw [if_pos h1]; exact ⟨rfl, h1.1⟩
  · rw [if_neg h1] at h; omega
theorem up_yes {c : UInt8} (h : 0 ≤ upI c) : upI c = dv c ∧ dv c < 16 := by
  unfold upI at h ⊢
  by_cases h1 : dv c < 16 ∧ ¬ (97 ≤ c.toNat ∧ c.toNat ≤ 102)
  · rw [if_pos h1]; exact ⟨rfl, h1.1⟩
  · rw [if_neg h1] at h; omega
theorem none_yes {c : UInt8} (h : lowI c < 0) (h2 : upI c < 0) : 16 ≤ dv c := by
  unfold lowI at h; unfold upI at h2
  by_cases h3 : 16 ≤ dv c
  · exact h3
  · by_cases h4 : 65 ≤ c.toNat ∧ c.toNat ≤ 70
    · rw [if_pos ⟨by omega, by omega⟩] at h2; omega
    · rw [if_pos ⟨by omega, h4⟩] at h; omega
theorem plc_low (c : UInt8) (w : World) : Calls Tryz.prog 139 #[.string ⟨#[48, 49, 50, 51, 52, 53, 54, 55, 56, 57, 97, 98, 99, 100, 101, 102]⟩, .int .u8 (c.toNat : Int)] w fun e w' => e = .returned (.int .i64 (lowI c)) ∧ w = w' := by
  rw [← place_low c]; exact place_any ⟨#[48, 49, 50, 51, 52, 53, 54, 55, 56, 57, 97, 98, 99, 100, 101, 102]⟩ c w (by decide)
theorem plc_up (c : UInt8) (w : World) : Calls Tryz.prog 139 #[.string ⟨#[48, 49, 50, 51, 52, 53, 54, 55, 56, 57, 65, 66, 67, 68, 69, 70]⟩, .int .u8 (c.toNat : Int)] w fun e w' => e = .returned (.int .i64 (upI c)) ∧ w = w' := by
  rw [← place_up c]; exact place_any ⟨#[48, 49, 50, 51, 52, 53, 54, 55, 56, 57, 65, 66, 67, 68, 69, 70]⟩ c w (by decide)
set_option maxHeartbeats 2000000 in
theorem rparseHex_any (s : ByteArray) (w : World) (hs : s.size ≤ 9223372036854775807) :
    Calls Tryz.prog 118 #[.string s] w fun e w' => e = .returned (.tuple #[.int .i64 (hexN s.data.toList), .bool (hexB s.data.toList)]) ∧ w = w' := by
  by_cases h0 : s.size < 1
  · have e1 : hexB s.data.toList = false := hexB_len (by rw [len_size]; omega)
    have E1 := Lib.hid e1
    have E2 := Lib.hid (hexN_no e1)
    clear e1
    go_enter Tryz.func118, Tryz.ntmps118
    go_wp2
    go_ret2
    exact ⟨ret_ib E2.out.symm E1.out.symm, rfl⟩
  · by_cases h4 : s.size > 4
    · have e1 : hexB s.data.toList = false := hexB_len (by rw [len_size]; omega)
      have E1 := Lib.hid e1
      have E2 := Lib.hid (hexN_no e1)
      clear e1
      go_enter Tryz.func118, Tryz.ntmps118
      go_wp2
      go_ret2
      exact ⟨ret_ib E2.out.symm E1.out.symm, rfl⟩
    · go_enter Tryz.func118, Tryz.ntmps118
      go_wp2
      go_loop [4, 5] (fun n i => ∃ k v : Nat, k ≤ s.size ∧ i = .int .i64 k ∧ n = .int .i64 v ∧ v ≤ 65535 ∧ Hid (v = valb 16 (s.data.toList.take k)) ∧ Hid (∀ c ∈ s.data.toList.take k, dv c < 16)) (fun _ i => s.size - (intOf i).toNat)
      case atStart => exact ⟨0, 0, Nat.zero_le _, rfl, rfl, by omega, Lib.hid rfl, Lib.hid (by simp)⟩
      case round =>
        obtain ⟨k, v, hk, rfl, rfl, hv, HV, HA⟩ := hrel
        by_cases hlt : k < s.size
        · have hd := dv_le s[k]
          have hts := take_snoc s k hlt
          by_cases c1 : 16 ≤ dv s[k]
          · have e1 := hexB_bad (byte_mem s k hlt) c1
            have E1 := Lib.hid e1
            have E2 := Lib.hid (hexN_no e1)
            have g1 : lowI s[k] < 0 := by
              rcases Int.lt_or_le (lowI s[k]) 0 with h | h
              · exact h
              · have := (low_yes h).2; omega
            have g2 : upI s[k] < 0 := by
              rcases Int.lt_or_le (upI s[k]) 0 with h | h
              · exact h
              · have := (up_yes h).2; omega
            clear e1 hts
            go_wp2_with (first
              | ((with_reducible refine (plc_low _ _).mono ?_); rintro e w' ⟨rfl, rfl⟩)
              | ((with_reducible refine (plc_up _ _).mono ?_); rintro e w' ⟨rfl, rfl⟩))
            go_ret2
            exact ⟨ret_ib E2.out.symm E1.out.symm, rfl⟩
          · have hvt : valb 16 (s.data.toList.take (k + 1)) = 16 * v + dv s[k] := by rw [hts, valb_snoc, ← HV.out]; omega
            have HA2 := Lib.hid (show ∀ c ∈ s.data.toList.take (k + 1), dv c < 16 by
              rw [hts]; intro c hc
              rcases List.mem_append.1 hc with hc | hc
              · exact HA.out c hc
              · simp at hc; rw [hc]; omega)
            have hvb : 16 * v + dv s[k] ≤ 65535 := by
              have := val_lt4 HA2.out 4 (by have := List.length_take_le (k + 1) s.data.toList; have := List.length_take_le' (k + 1) s.data.toList; have := len_size s; omega)
              rw [hvt] at this
              have e : (16 : Nat) ^ 4 = 65536 := by decide
              omega
            have HT := Lib.hid hvt
            clear hts hvt
            rcases Int.lt_or_le (lowI s[k]) 0 with g1 | g1
            · have g2 : 0 ≤ upI s[k] := by
                rcases Int.lt_or_le (upI s[k]) 0 with h | h
                · have := none_yes g1 h; omega
                · exact h
              obtain ⟨G, _⟩ := up_yes g2
              have G := Lib.hid G
              have g3 : upI s[k] ≤ 15 := by have := G.out; omega
              go_wp2_with (first
                | ((with_reducible refine (plc_low _ _).mono ?_); rintro e w' ⟨rfl, rfl⟩)
                | ((with_reducible refine (plc_up _ _).mono ?_); rintro e w' ⟨rfl, rfl⟩))
              go_round
              case rel => exact ⟨k + 1, 16 * v + dv s[k], by omega, by go_num, by go_num, by omega, Lib.hid HT.out.symm, HA2⟩
              case measure => simp [intOf]; omega
            · obtain ⟨G, _⟩ := low_yes g1
              have G := Lib.hid G
              have g3 : lowI s[k] ≤ 15 := by have := G.out; omega
              go_wp2_with (first
                | ((with_reducible refine (plc_low _ _).mono ?_); rintro e w' ⟨rfl, rfl⟩)
                | ((with_reducible refine (plc_up _ _).mono ?_); rintro e w' ⟨rfl, rfl⟩))
              go_round
              case rel => exact ⟨k + 1, 16 * v + dv s[k], by omega, by go_num, by go_num, by omega, Lib.hid HT.out.symm, HA2⟩
              case measure => simp [intOf]; omega
        · have hA := HA.out
          have hV := HV.out
          rw [List.take_of_length_le (by rw [len_size]; omega)] at hA hV
          have e1 : hexB s.data.toList = true := (hexB_iff _).2 ⟨by rw [len_size]; omega, by rw [len_size]; omega, hA⟩
          have E2 := Lib.hid (hexN_of e1)
          have E1 := Lib.hid e1
          have E3 := Lib.hid hV
          clear e1 hA hV
          go_wp2
          go_ret2
          exact ⟨ret_ib (by rw [E2.out, E3.out]) E1.out.symm, rfl⟩
theorem fig_slice (d : Int) (h0 : 0 ≤ d) (hd : d < 16) (W : World) : (Instr.slice 9 (.string ⟨#[48, 49, 50, 51, 52, 53, 54, 55, 56, 57, 97, 98, 99, 100, 101, 102]⟩) (some (.int .i64 d)) (some (.int .i64 (d + 1))) none).run Tryz.prog W = .ok (.string ⟨[digit d.toNat].toArray⟩) W := by
  have h : ∀ d : Fin 16, (⟨#[48, 49, 50, 51, 52, 53, 54, 55, 56, 57, 97, 98, 99, 100, 101, 102]⟩ : ByteArray).extract d.val (d.val + 1) = ⟨[digit d.val].toArray⟩ := by decide +kernel
  have := h ⟨d.toNat, by omega⟩
  simp only [] at this
  have hz : (⟨#[48, 49, 50, 51, 52, 53, 54, 55, 56, 57, 97, 98, 99, 100, 101, 102]⟩ : ByteArray).size = 16 := rfl
  rw [run_slice_string _ _ _ _ _ _ _ Tryz.underlying9 h0 (by omega) (by rw [hz]; omega)]
  rw [show (d + 1).toNat = d.toNat + 1 by omega, this]
theorem rhex_any (k : Nat) : ∀ (n : Int) (w : World), n ≤ k → 0 ≤ n → n ≤ 65535 →
    Calls Tryz.prog 144 #[.int .i64 n] w fun e w' => e = .returned (.string ⟨(digs 16 n.toNat).toArray⟩) ∧ ∃ q, w' = w.drewN q := by
  induction k with
  | zero =>
    intro n w hk h0 h1
    have hf := fig_slice n h0 (by omega) w
    have h2 : n < 16 := by omega
    go_enter Tryz.func144, Tryz.ntmps144
    go_wp2
    go_ret
    exact ⟨ret_s (by rw [digs_lo (by omega)]), 0, rfl⟩
  | succ k ih =>
    intro n w hk h0 h1
    by_cases h2 : n < 16
    · clear ih
      have hf := fig_slice n h0 h2 w
      go_enter Tryz.func144, Tryz.ntmps144
      go_wp2
      go_ret
      exact ⟨ret_s (by rw [digs_lo (by omega)]), 0, rfl⟩
    · have IH := Lib.hid ih
      clear ih
      have q1 : IntKind.i64.wrap (n.tdiv 16) = n / 16 := by rw [Int.tdiv_eq_ediv_of_nonneg h0, IntWalk.i64_in _ (by omega)]
      have q2 : n.tmod 16 = n % 16 := Int.tmod_eq_emod_of_nonneg h0
      have hfs := fun W => fig_slice (n % 16) (by omega) (by omega) W
      have hl := digs_len (b := 16) (by omega) 3 (n / 16).toNat (by simp; omega)
      have q3 : IntKind.i64.wrap (n % 16 + 1) = n % 16 + 1 := IntWalk.i64_in _ (by omega)
      go_enter Tryz.func144, Tryz.ntmps144
      go_wp2
      go_quiet ((go_at_call 144; exact Calls.quiet_of (IH.out (n / 16) _ (by omega) (by omega) (by omega))))
      go_wp2
      go_ret
      have HF : digs 16 n.toNat = digs 16 (n / 16).toNat ++ [digit (n % 16).toNat] := by
        have := digs_hi (b := 16) (n := n.toNat) (by omega) (by omega)
        rw [show n.toNat / 16 = (n / 16).toNat by omega, show n.toNat % 16 = (n % 16).toNat by omega] at this
        exact this
      exact ⟨cat_s HF.symm, _, rfl⟩
theorem rhexAll_any (n : Int) (w : World) (h0 : -9223372036854775808 ≤ n) (h1 : n ≤ 9223372036854775807) :
    Calls Tryz.prog 144 #[.int .i64 n] w fun e w' => e = .returned (.string ⟨(hex n).toArray⟩) ∧ ∃ q, w' = w.drewN q := by
  by_cases h : n < 0
  · go_enter Tryz.func144, Tryz.ntmps144
    go_wp2_with fail
    go_ret
    exact ⟨by unfold hex; rw [if_pos (Or.inl h)]; rfl, 0, rfl⟩
  · by_cases h2 : n > 65535
    · go_enter Tryz.func144, Tryz.ntmps144
      go_wp2_with fail
      go_ret
      exact ⟨by unfold hex; rw [if_pos (Or.inr h2)]; rfl, 0, rfl⟩
    · refine (rhex_any n.toNat n w (by omega) (by omega) (by omega)).mono ?_
      rintro e w' ⟨rfl, hq⟩
      exact ⟨ret_s (by unfold hex; rw [if_neg (by omega)]; congr 1; omega), hq⟩
end Go.Proofs.YtefkolkagebffaaGreatDoor.Dec
