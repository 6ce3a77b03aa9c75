/- Contracts of the document's answers for layer 2: base 16. -/
import Derived.Test.YtokbifndhkijiaaDoorRef02Place
namespace Go.Proofs.YtokbifndhkijiaaDoor.Dec
set_option maxRecDepth 100000
open Go.ChangeShapes Go.WideShapes Go.ChangeAt Go.RowKit
set_option linter.unusedVariables false
def lowI (c : UInt8) : Int := if dv c < 16 ∧ ¬ (65 ≤ c.toNat ∧ c.toNat ≤ 70) then dv c else -1
def upI (c : UInt8) : Int := if dv c < 16 ∧ ¬ (97 ≤ c.toNat ∧ c.toNat ≤ 102) then dv c else -1
theorem byteAll (P : UInt8 → Prop) (h : ∀ d : Fin 256, P (UInt8.ofNat d.val)) (c : UInt8) : P c := by
  have h1 := h ⟨c.toNat, c.toNat_lt⟩
  simp only [UInt8.ofNat_toNat] at h1
  exact h1
theorem place_low (c : UInt8) : placeI [48, 49, 50, 51, 52, 53, 54, 55, 56, 57, 97, 98, 99, 100, 101, 102] c = lowI c :=
  byteAll (fun c => placeI [48, 49, 50, 51, 52, 53, 54, 55, 56, 57, 97, 98, 99, 100, 101, 102] c = lowI c) (by decide +kernel) c
theorem place_up (c : UInt8) : placeI [48, 49, 50, 51, 52, 53, 54, 55, 56, 57, 65, 66, 67, 68, 69, 70] c = upI c :=
  byteAll (fun c => placeI [48, 49, 50, 51, 52, 53, 54, 55, 56, 57, 65, 66, 67, 68, 69, 70] c = upI c) (by decide +kernel) c
theorem low_yes {c : UInt8} (h : 0 ≤ lowI c) : lowI c = dv c ∧ dv c < 16 := by
  unfold lowI at h ⊢
  by_cases h1 : dv c < 16 ∧ ¬ (65 ≤ c.toNat ∧ c.toNat ≤ 70)
  · rw [if_pos h1]; exact ⟨rfl, h1.1⟩
  · rw [if_neg h1] at h; omega
theorem up_yes {c : UInt8} (h : 0 ≤ upI c) : upI c = dv c ∧ dv c < 16 := by
  unfold upI at h ⊢
  by_cases h1 : dv c < 16 ∧ ¬ (97 ≤ c.toNat ∧ c.toNat ≤ 102)
  · rw [if_pos h1]; exact ⟨rfl, h1.1⟩
  · rw [if_neg h1] at h; omega
theorem none_yes {c : UInt8} (h : lowI c < 0) (h2 : upI c < 0) : 16 ≤ dv c := by
  unfold lowI at h; unfold upI at h2
  by_cases h3 : 16 ≤ dv c
  · exact h3
  · by_cases h4 : 65 ≤ c.toNat ∧ c.toNat ≤ 70
    · rw [if_pos ⟨by omega, by omega⟩] at h2; omega
    · rw [if_pos ⟨by omega, h4⟩] at h; omega
theorem plc_low (c : UInt8) (w : World) : Calls Tryd.prog 60 #[.string ⟨#[48, 49, 50, 51, 52, 53, 54, 55, 56, 57, 97, 98, 99, 100, 101, 102]⟩, .int .u8 (c.toNat : Int)] w fun e w' => e = .returned (.int .i64 (lowI c)) ∧ w = w' := by
  rw [← place_low c]; exact place_any ⟨#[48, 49, 50, 51, 52, 53, 54, 55, 56, 57, 97, 98, 99, 100, 101, 102]⟩ c w (by decide)
theorem plc_up (c : UInt8) (w : World) : Calls Tryd.prog 60 #[.string ⟨#[48, 49, 50, 51, 52, 53, 54, 55, 56, 57, 65, 66, 67, 68, 69, 70]⟩, .int .u8 (c.toNat : Int)] w fun e w' => e = .returned (.int .i64 (upI c)) ∧ w = w' := by
  rw [← place_up c]; exact place_any ⟨#[48, 49, 50, 51, 52, 53, 54, 55, 56, 57, 65, 66, 67, 68, 69, 70]⟩ c w (by decide)
set_option maxHeartbeats 2000000 in
theorem rparseHex_any (s : ByteArray) (w : World) (hs : s.size ≤ 9223372036854775807) :
    Calls Tryd.prog 43 #[.string s] w fun e w' => e = .returned (.tuple #[.int .i64 (hexN s.data.toList), .bool (hexB s.data.toList)]) ∧ w = w' := by
  by_cases h0 : s.size < 1
  · have e1 : hexB s.data.toList = false := hexB_len (by rw [len_size]; omega)
    have E1 := Lib.hid e1
    have E2 := Lib.hid (hexN_no e1)
    clear e1
    go_enter Tryd.func43, Tryd.ntmps43
    go_wp2
    go_ret2
    exact ⟨ret_ib E2.out.symm E1.out.symm, rfl⟩
  · by_cases h4 : s.size > 4
    · have e1 : hexB s.data.toList = false := hexB_len (by rw [len_size]; omega)
      have E1 := Lib.hid e1
      have E2 := Lib.hid (hexN_no e1)
      clear e1
      go_enter Tryd.func43, Tryd.ntmps43
      go_wp2
      go_ret2
      exact ⟨ret_ib E2.out.symm E1.out.symm, rfl⟩
    · go_enter Tryd.func43, Tryd.ntmps43
      go_wp2
      go_loop [4, 5] (fun n i => ∃ k v : Nat, k ≤ s.size ∧ i = .int .i64 k ∧ n = .int .i64 v ∧ v ≤ 65535 ∧ Hid (v = valb 16 (s.data.toList.take k)) ∧ Hid (∀ c ∈ s.data.toList.take k, dv c < 16)) (fun _ i => s.size - (intOf i).toNat)
      case atStart => exact ⟨0, 0, Nat.zero_le _, rfl, rfl, by omega, Lib.hid rfl, Lib.hid (by simp)⟩
      case round =>
        obtain ⟨k, v, hk, rfl, rfl, hv, HV, HA⟩ := hrel
        by_cases hlt : k < s.size
        · have hd := dv_le s[k]
          have hts := take_snoc s k hlt
          by_cases c1 : 16 ≤ dv s[k]
          · have e1 := hexB_bad (byte_mem s k hlt) c1
            have E1 := Lib.hid e1
            have E2 := Lib.hid (hexN_no e1)
            have g1 : lowI s[k] < 0 := by
              rcases Int.lt_or_le (lowI s[k]) 0 with h | h
              · exact h
              · have := (low_yes h).2; omega
            have g2 : upI s[k] < 0 := by
              rcases Int.lt_or_le (upI s[k]) 0 with h | h
              · exact h
              · have := (up_yes h).2; omega
            clear e1 hts
            go_wp2_with (first
              | ((with_reducible refine (plc_low _ _).mono ?_); rintro e w' ⟨rfl, rfl⟩)
              | ((with_reducible refine (plc_up _ _).mono ?_); rintro e w' ⟨rfl, rfl⟩))
            go_ret2
            exact ⟨ret_ib E2.out.symm E1.out.symm, rfl⟩
          · have hvt : valb 16 (s.data.toList.take (k + 1)) = 16 * v + dv s[k] := by rw [hts, valb_snoc, ← HV.out]; omega
            have HA2 := Lib.hid (show ∀ c ∈ s.data.toList.take (k + 1), dv c < 16 by
              rw [hts]; intro c hc
              rcases List.mem_append.1 hc with hc | hc
              · exact HA.out c hc
              · simp at hc; rw [hc]; omega)
            have hvb : 16 * v + dv s[k] ≤ 65535 := by
              have := val_lt4 HA2.out 4 (by have := List.length_take_le (k + 1) s.data.toList; have := List.length_take_le' (k + 1) s.data.toList; have := len_size s; omega)
              rw [hvt] at this
              have e : (16 : Nat) ^ 4 = 65536 := by decide
              omega
            have HT := Lib.hid hvt
            clear hts hvt
            rcases Int.lt_or_le (lowI s[k]) 0 with g1 | g1
            · have g2 : 0 ≤ upI s[k] := by
                rcases Int.lt_or_le (upI s[k]) 0 with h | h
                · have := none_yes g1 h; omega
                · exact h
              obtain ⟨G, _⟩ := up_yes g2
              have G := Lib.hid G
              have g3 : upI s[k] ≤ 15 := by have := G.out; omega
              go_wp2_with (first
                | ((with_reducible refine (plc_low _ _).mono ?_); rintro e w' ⟨rfl, rfl⟩)
                | ((with_reducible refine (plc_up _ _).mono ?_); rintro e w' ⟨rfl, rfl⟩))
              go_round
              case rel => exact ⟨k + 1, 16 * v + dv s[k], by omega, by go_num, by go_num, by omega, Lib.hid HT.out.symm, HA2⟩
              case measure => simp [intOf]; omega
            · obtain ⟨G, _⟩ := low_yes g1
              have G := Lib.hid G
              have g3 : lowI s[k] ≤ 15 := by have := G.out; omega
              go_wp2_with (first
                | ((with_reducible refine (plc_low _ _).mono ?_); rintro e w' ⟨rfl, rfl⟩)
                | ((with_reducible refine (plc_up _ _).mono ?_); rintro e w' ⟨rfl, rfl⟩))
              go_round
              case rel => exact ⟨k + 1, 16 * v + dv s[k], by omega, by go_num, by go_num, by omega, Lib.hid HT.out.symm, HA2⟩
              case measure => simp [intOf]; omega
        · have hA := HA.out
          have hV := HV.out
          rw [List.take_of_length_le (by rw [len_size]; omega)] at hA hV
          have e1 : hexB s.data.toList = true := (hexB_iff _).2 ⟨by rw [len_size]; omega, by rw [len_size]; omega, hA⟩
          have E2 := Lib.hid (hexN_of e1)
          have E1 := Lib.hid e1
          have E3 := Lib.hid hV
          clear e1 hA hV
          go_wp2
          go_ret2
          exact ⟨ret_ib (by rw [E2.out, E3.out]) E1.out.symm, rfl⟩
theorem fig_slice (d : Int) (h0 : 0 ≤ d) (hd : d < 16) (W : World) : (Instr.slice 9 (.string ⟨#[48, 49, 50, 51, 52, 53, 54, 55, 56, 57, 97, 98, 99, 100, 101, 102]⟩) (some (.int .i64 d)) (some (.int .i64 (d + 1))) none).run Tryd.prog W = .ok (.string ⟨[digit d.toNat].toArray⟩) W := by
  have h : ∀ d : Fin 16, (⟨#[48, 49, 50, 51, 52, 53, 54, 55, 56, 57, 97, 98, 99, 100, 101, 102]⟩ : ByteArray).extract d.val (d.val + 1) = ⟨[digit d.val].toArray⟩ := by decide +kernel
  have := h ⟨d.toNat, by omega⟩
  simp only [] at this
  have hz : (⟨#[48, 49, 50, 51, 52, 53, 54, 55, 56, 57, 97, 98, 99, 100, 101, 102]⟩ : ByteArray).size = 16 := rfl
  rw [run_slice_string _ _ _ _ _ _ _ Tryd.underlying9 h0 (by omega) (by rw [hz]; omega)]
  rw [show (d + 1).toNat = d.toNat + 1 by omega, this]
theorem rhex_any (k : Nat) : ∀ (n : Int) (w : World), n ≤ k → 0 ≤ n → n ≤ 65535 →
    Calls Tryd.prog 50 #[.int .i64 n] w fun e w' => e = .returned (.string ⟨(digs 16 n.toNat).toArray⟩) ∧ ∃ q, w' = w.drewN q := by
  induction k with
  | zero =>
    intro n w hk h0 h1
    have hf := fig_slice n h0 (by omega) w
    have h2 : n < 16 := by omega
    go_enter Tryd.func50, Tryd.ntmps50
    go_wp2
    go_ret
    exact ⟨ret_s (by rw [digs_lo (by omega)]), 0, rfl⟩
  | succ k ih =>
    intro n w hk h0 h1
    by_cases h2 : n < 16
    · clear ih
      have hf := fig_slice n h0 h2 w
      go_enter Tryd.func50, Tryd.ntmps50
      go_wp2
      go_ret
      exact ⟨ret_s (by rw [digs_lo (by omega)]), 0, rfl⟩
    · have IH := Lib.hid ih
      clear ih
      have q1 : IntKind.i64.wrap (n.tdiv 16) = n / 16 := by rw [Int.tdiv_eq_ediv_of_nonneg h0, IntWalk.i64_in _ (by omega)]
      have q2 : n.tmod 16 = n % 16 := Int.tmod_eq_emod_of_nonneg h0
      have hfs := fun W => fig_slice (n % 16) (by omega) (by omega) W
      have hl := digs_len (b := 16) (by omega) 3 (n / 16).toNat (by simp; omega)
      have q3 : IntKind.i64.wrap (n % 16 + 1) = n % 16 + 1 := IntWalk.i64_in _ (by omega)
      go_enter Tryd.func50, Tryd.ntmps50
      go_wp2
      go_quiet ((go_at_call 50; exact Calls.quiet_of (IH.out (n / 16) _ (by omega) (by omega) (by omega))))
      go_wp2
      go_ret
      have HF : digs 16 n.toNat = digs 16 (n / 16).toNat ++ [digit (n % 16).toNat] := by
        have := digs_hi (b := 16) (n := n.toNat) (by omega) (by omega)
        rw [show n.toNat / 16 = (n / 16).toNat by omega, show n.toNat % 16 = (n % 16).toNat by omega] at this
        exact this
      exact ⟨cat_s HF.symm, _, rfl⟩
theorem rhexAll_any (n : Int) (w : World) (h0 : -9223372036854775808 ≤ n) (h1 : n ≤ 9223372036854775807) :
    Calls Tryd.prog 50 #[.int .i64 n] w fun e w' => e = .returned (.string ⟨(hex n).toArray⟩) ∧ ∃ q, w' = w.drewN q := by
  by_cases h : n < 0
  · go_enter Tryd.func50, Tryd.ntmps50
    go_wp2_with fail
    go_ret
    exact ⟨by unfold hex; rw [if_pos (Or.inl h)]; rfl, 0, rfl⟩
  · by_cases h2 : n > 65535
    · go_enter Tryd.func50, Tryd.ntmps50
      go_wp2_with fail
      go_ret
      exact ⟨by unfold hex; rw [if_pos (Or.inr h2)]; rfl, 0, rfl⟩
    · refine (rhex_any n.toNat n w (by omega) (by omega) (by omega)).mono ?_
      rintro e w' ⟨rfl, hq⟩
      exact ⟨ret_s (by unfold hex; rw [if_neg (by omega)]; congr 1; omega), hq⟩
end Go.Proofs.YtokbifndhkijiaaDoor.Dec
