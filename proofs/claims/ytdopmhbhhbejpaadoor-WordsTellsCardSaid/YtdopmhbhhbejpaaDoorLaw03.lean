/- The statements of layer 3, proved: what was cut and put together is as the document says; for all texts and lists, under the row's listed variables. -/
import Derived.Test.YtdopmhbhhbejpaaDoorDoor
import Derived.Test.YtdopmhbhhbejpaaDoorRef03
import Derived.Test.YtdopmhbhhbejpaaDoorSame
namespace Go.Proofs.YtdopmhbhhbejpaaDoor
open Go.ChangeShapes Go.WideShapes Go.ChangeAt Go.RowKit
open Words
set_option linter.unusedVariables false
def lightB (ls : List (List UInt8)) : Bool := decide (ls.length ≤ 100) && ls.all fun l => decide (l.length ≤ 1000)
theorem lightB_long {ls : List (List UInt8)} (h : ¬ ls.length ≤ 100) : lightB ls = false := by unfold lightB; rw [decide_eq_false h]; rfl
theorem lightB_big {ls : List (List UInt8)} (k : Nat) (hk : k < ls.length) (h : 1000 < ls[k].length) : lightB ls = false := by
  have : (ls.all fun l => decide (l.length ≤ 1000)) = false := by rw [List.all_eq_false]; exact ⟨ls[k], List.getElem_mem _, by simp; omega⟩
  unfold lightB; rw [this, Bool.and_false]
theorem lightB_yes {ls : List (List UInt8)} (h : ls.length ≤ 100) (ha : ∀ l ∈ ls, l.length ≤ 1000) : lightB ls = true := by
  unfold lightB; rw [decide_eq_true h]; simp; exact ha
theorem of_lightB {ls : List (List UInt8)} (h : lightB ls = true) : ls.length ≤ 100 ∧ ∀ l ∈ ls, l.length ≤ 1000 := by
  unfold lightB at h; simp at h; exact h
set_option maxHeartbeats 2000000 in
theorem light_any (v : Value) (ls : List (List UInt8)) (w : World) (h : Txts w v ls) (hn : ls.length ≤ 9223372036854775807) (hs : ∀ l ∈ ls, l.length ≤ 9223372036854775807) :
    Calls Tryd.prog 6 #[v] w fun e w' => e = .returned (.bool (lightB ls)) ∧ w = w' := by
  obtain ⟨A, cap, rfl, hcap, hcell⟩ := h
  have HC := Lib.hid hcell
  have HS := Lib.hid hs
  clear hcell hs
  go_enter Tryd.func6, Tryd.ntmps6
  go_wp2
  go_loop [3] (fun i => ∃ k : Nat, k ≤ ls.length ∧ k ≤ 100 ∧ i = .int .i64 k ∧ Hid (∀ l ∈ ls.take k, l.length ≤ 1000)) (fun i => ls.length - (intOf i).toNat)
  case atStart => exact ⟨0, Nat.zero_le _, by omega, rfl, Lib.hid (by simp)⟩
  case round =>
    obtain ⟨k, hk, hk2, rfl, HA⟩ := hrel
    by_cases hlt : k < ls.length
    · by_cases h100 : k < 100
      · obtain ⟨b, o, rfl, hb, hc⟩ := HC.out (by omega)
        have h1 := hc k hlt
        have hlk := HS.out ls[k] (List.getElem_mem _)
        clear hc
        by_cases hbig : 1000 < ls[k].length
        · have E := Lib.hid (lightB_big k hlt hbig)
          go_wp2
          go_ret
          exact ⟨ret_b E.out.symm, rfl⟩
        · have HA2 : Hid (∀ l ∈ ls.take (k + 1), l.length ≤ 1000) := by
            rw [List.take_succ_eq_append_getElem hlt]
            intro l h
            rcases List.mem_append.1 h with h | h
            · exact HA.out l h
            · simp at h; subst h; omega
          go_wp2
          go_round
          case rel => exact ⟨k + 1, by omega, by omega, by go_num, HA2⟩
          case measure => simp [intOf]; omega
      · have E := Lib.hid (lightB_long (ls := ls) (by omega))
        go_wp2
        go_ret
        exact ⟨ret_b (by rw [E.out]; simp; omega), rfl⟩
    · have hA := HA.out
      rw [List.take_of_length_le (by omega)] at hA
      have E := Lib.hid (lightB_yes (ls := ls) (by omega) hA)
      clear hA
      go_wp2
      go_ret
      exact ⟨ret_b (by rw [E.out]; simp; omega), rfl⟩
theorem awake03_any (w : World) : Calls Tryd.prog 7 #[] w fun e w' => e = .returned (.bool true) ∧ Below w.heap.size w w' := by
  have p1 : lineE [97, 10, 10] = 0 := by decide
  have p2 : lineL [97, 10, 10] = [[97], []] := by decide
  have p3 : cut 44 [97, 44, 44, 98] = [[97], [], [98]] := by decide
  have p4 : glue 32 [[97], [98]] = [97, 32, 98] := by decide
  go_enter Tryd.func7, Tryd.ntmps7
  go_wp2_with fail
  refine (lines_any _ _ (by decide)).mono ?_
  rintro e w1 ⟨v1, rfl, h1, hb1⟩
  rw [show (⟨#[97, 10, 10]⟩ : ByteArray).data.toList = [97, 10, 10] from rfl, p1]
  rw [show (⟨#[97, 10, 10]⟩ : ByteArray).data.toList = [97, 10, 10] from rfl, p2] at h1
  obtain ⟨A1, c1, rfl, hc1, hx1⟩ := h1
  obtain ⟨b1, o1, rfl, hl1, hy1⟩ := hx1 (by decide)
  have hz1 := hy1 0 (by decide)
  clear hx1 hy1
  go_wp2_with fail
  refine (split_any _ 44 _ (by decide)).mono ?_
  rintro e w2 ⟨v2, rfl, h2, hb2⟩
  rw [show (⟨#[97, 44, 44, 98]⟩ : ByteArray).data.toList = [97, 44, 44, 98] from rfl, p3] at h2
  obtain ⟨A2, c2, rfl, hc2, hx2⟩ := h2
  clear hx2
  have hz2 := (hb2.cell (p := ⟨b1, o1 + 0, none⟩) hl1).trans hz1
  clear hz1
  go_wp2_with fail
  refine (row_any _ [[97], [98]] _ (Txts.lit w2 [[97], [98]] _ _ rfl) (by decide) (by decide)).mono ?_
  rintro e w3 ⟨rfl, hb3⟩
  rw [p4]
  have hl2 : b1 < w2.heap.size := Nat.lt_of_lt_of_le hl1 hb2.size
  have hz3 := (hb3.cell (p := ⟨b1, o1 + 0, none⟩) (by simp; omega)).trans ((World.cell?_alloc_lt w2 _ ⟨b1, o1 + 0, none⟩ hl2).trans hz2)
  clear hz2
  rw [Nat.add_zero] at hz3
  go_wp2_with fail
  go_ret
  exact ⟨rfl, low_trans (low_trans hb1 hb2) (((Below.refl _ _).alloc (Nat.le_refl _) _).trans (hb3.mono (by simp)))⟩
theorem cut_small (c : UInt8) (l : List UInt8) : (cut c l).length ≤ l.length + 1 := by
  rw [cut_len]; have := List.count_le_length (a := c) (l := l); omega
set_option maxHeartbeats 4000000 in
set_option maxRecDepth 100000 in
theorem wordsTells_walk (w : World) (s : ByteArray) (hs : s.size ≤ 9223372036854775807) (c : UInt8) (v : Value) (ls : List (List UInt8)) (h : Txts w v ls) (hn : ls.length ≤ 9223372036854775807) (hz : ∀ l ∈ ls, l.length ≤ 9223372036854775807) :
    Calls Tryd.prog 3 #[.string s, .int .u8 (c.toNat : Int), v] w fun e w' => e = .returned (.bool true) ∧ Below w.heap.size w w' := by
  by_cases h7 : 70000 < s.size
  · go_enter Tryd.func3, Tryd.ntmps3
    go_wp2_with fail
    refine (awake03_any _).mono ?_
    rintro e w1 ⟨rfl, hb1⟩
    go_wp2_with fail
    go_ret
    exact ⟨rfl, hb1⟩
  · have HL := Lib.hid (light_any v ls w h hn hz)
    clear hz
    cases hl : lightB ls
    · rw [hl] at HL
      go_enter Tryd.func3, Tryd.ntmps3
      go_wp2_with fail
      refine HL.out.mono ?_
      rintro e w' ⟨rfl, rfl⟩
      go_wp2_with fail
      refine (awake03_any _).mono ?_
      rintro e w1 ⟨rfl, hb1⟩
      go_wp2_with fail
      go_ret
      exact ⟨rfl, hb1⟩
    · have hN := (of_lightB hl).1
      have hA := (of_lightB hl).2
      have g1 := glue_bound (c := c) hA
      have g2 := glue_bound (c := 32) hA
      have g3 : ls.length * (1000 + 1) ≤ 100 * 1001 := Nat.mul_le_mul hN (Nat.le_refl _)
      have hc := cut_small c s.data.toList
      rw [len_size] at hc
      rw [hl] at HL
      clear hA hl
      go_enter Tryd.func3, Tryd.ntmps3
      go_wp2_with fail
      refine HL.out.mono ?_
      rintro e w' ⟨rfl, rfl⟩
      go_wp2_with fail
      refine (split_any s c _ (by omega)).mono ?_
      rintro e w1 ⟨va, rfl, ha, hb1⟩
      go_wp2_with fail
      refine (rsplit_any s c _ (by omega)).mono ?_
      rintro e w2 ⟨vb, rfl, hb, hb2⟩
      go_wp2_with fail
      refine (texts_any va vb _ _ _ (ha.below hb2) hb (by omega)).mono ?_
      rintro e w3 ⟨rfl, hb3⟩
      rw [sameB_refl]
      have b3 := low_trans (low_trans hb1 hb2) hb3
      clear hb1 hb2 hb3 ha hb
      go_wp2_with fail
      refine (join_any v ls c _ (h.below b3) (by omega) (by omega)).mono ?_
      rintro e w4 ⟨rfl, hb4⟩
      have b4 := low_trans b3 hb4
      clear hb4 b3
      go_wp2_with fail
      refine (rjoin_any v ls c _ (h.below b4) (by omega) (by omega)).mono ?_
      rintro e w5 ⟨rfl, hb5⟩
      have b5 := low_trans b4 hb5
      clear hb5 b4
      go_wp2_with fail
      refine (row_any v ls _ (h.below b5) (by omega) (by omega)).mono ?_
      rintro e w6 ⟨rfl, hb6⟩
      have b6 := low_trans b5 hb6
      clear hb6 b5
      go_wp2_with fail
      refine (rjoin_any v ls 32 _ (h.below b6) (by omega) (by omega)).mono ?_
      rintro e w7 ⟨rfl, hb7⟩
      have b7 := low_trans b6 hb7
      clear hb7 b6
      go_wp2_with fail
      refine (awake03_any _).mono ?_
      rintro e w8 ⟨rfl, hb8⟩
      go_wp2_with fail
      go_ret
      exact ⟨rfl, low_trans b7 hb8⟩
set_option maxHeartbeats 4000000 in
theorem wordsLines_walk (w : World) (s : ByteArray) (hs : s.size ≤ 9223372036854775807) :
    Calls Tryd.prog 4 #[.string s] w fun e w' => e = .returned (.bool true) ∧ Below w.heap.size w w' := by
  by_cases h7 : 70000 < s.size
  · go_enter Tryd.func4, Tryd.ntmps4
    go_wp2_with fail
    refine (awake03_any _).mono ?_
    rintro e w1 ⟨rfl, hb1⟩
    go_wp2_with fail
    go_ret
    exact ⟨rfl, hb1⟩
  · have hll : (lineL s.data.toList).length ≤ 9223372036854775807 := by
      unfold lineL
      split
      · have := cut_small 10 s.data.toList
        rw [len_size] at this
        rw [List.length_dropLast]; omega
      · simp
    go_enter Tryd.func4, Tryd.ntmps4
    go_wp2_with fail
    refine (lines_any s _ hs).mono ?_
    rintro e w1 ⟨va, rfl, ha, hb1⟩
    go_wp2_with fail
    refine (rlines_any s _ hs).mono ?_
    rintro e w2 ⟨vb, rfl, hb, hb2⟩
    go_wp2_with fail
    refine (texts_any va vb _ _ _ (ha.below hb2) hb hll).mono ?_
    rintro e w3 ⟨rfl, hb3⟩
    rw [sameB_refl]
    go_wp2_with fail
    refine (awake03_any _).mono ?_
    rintro e w4 ⟨rfl, hb4⟩
    go_wp2_with fail
    go_ret
    exact ⟨rfl, low_trans (low_trans (low_trans hb1 hb2) hb3) hb4⟩
namespace wordsTells
set_option maxRecDepth 100000 in
theorem lifted (os : Os) (started : os.Started) (H : Type) (enc : TypeId × Value → H) :
    ReturnsInHanded {} Tryd.checked os 3 .any (fun w args => (Rows.wordsTellsSpec.pre enc Tryd.prog Tryd.f3 [] false w args ∧ laidMetH Tryd.prog Rows.wordsTellsRow.laid w) ∧ sizedMet enc Tryd.prog Tryd.f3 (OpenSpec.ofChange Rows.wordsTellsSpec) false w args)
      (Rows.wordsTellsSpec.post enc Tryd.prog Tryd.f3 false true false false) := by
  refine returnsInHanded_of_change_and (C := Tryd.checked) (X := fun w _ => laidMetH Tryd.prog Rows.wordsTellsRow.laid w) (fun _ _ _ hh h => h.of_heap hh) own started (by kernel_rfl) Tryd.func3
    (ChangeSpec.witness_shaped (enc := enc) (C := Tryd.checked) (os := os) (X := fun w _ => laidMetH Tryd.prog Rows.wordsTellsRow.laid w) false (World.laidAll Tryd.prog os Rows.wordsTellsRow.laid) #[.string ByteArray.empty, .int .u8 0, .slice none 0 0] 8 (World.laidAll_os _ _ _)
      (World.shaped_of_ZipB (by kernel_rfl) (by kernel_rfl)) (by kernel_rfl) (by kernel_rfl) (by kernel_rfl)
      (by rw [MakeChecks.laidMetH_plain _ _ _ (by kernel_rfl)]; exact laidMet_laidAll _ (by kernel_rfl) (by kernel_rfl))) ?_
  intro W base args ds gs before hval0 hW _ _ _ _
  have hval : ∀ (j : Nat) t v, Tryd.f3.params[j]? = some t → args[j]? = some v → Value.okWide Tryd.prog W .any base t v := hval0
  have hW' := hW
  obtain ⟨p, q, hA0, hV, _, _, _⟩ := hW
  have hA : DataW.TrodAll enc Tryd.prog W 0 (fun _ => true) true Tryd.f3.params.toList args.toList ds p := hA0
  rw [Tryd.params3] at hA hval
  obtain ⟨v0, vs0, d0, ds0, p0, q0, hargs, rfl, rfl, h0, r0⟩ := trodAll_cons hA
  obtain ⟨v1, vs1, d1, ds1, p1, q1, rfl, rfl, rfl, h1, r1⟩ := trodAll_cons r0
  obtain ⟨v2, vs2, d2, ds2, p2, q2, rfl, rfl, rfl, h2, r2⟩ := trodAll_cons r1
  obtain ⟨rfl, rfl, rfl⟩ := trodAll_nil r2
  obtain rfl : args = #[v0, v1, v2] := by cases args; simp_all
  obtain ⟨rfl, rfl⟩ := trodVars_none hV
  obtain ⟨a0, rfl, rfl, rfl, w0⟩ := ChangeMaps.open_string Tryd.underlying9 (hval 0 9 v0 rfl rfl) h0
  unfold maxLen at w0
  obtain ⟨b1, rfl, rfl, rfl, w1⟩ := open_int Tryd.underlying5 (hval 1 5 v1 rfl rfl) h1
  obtain ⟨a1, rfl⟩ := byte_of w1
  obtain ⟨l2, t2, n2, s2⟩ := open_txts Tryd.underlying22 Tryd.underlying9 (by kernel_rfl) (hval 2 22 v2 rfl rfl) h2
  clear hA0 hval0
  refine (wordsTells_walk W a0 w0 a1 v2 l2 t2 n2 s2).mono fun e W' ⟨he, hg⟩ => ?_
  subst he
  exact ⟨_, rfl, post_law laidOut (by kernel_rfl) (by kernel_rfl) Tryd.underlying4 rfl hW' rfl rfl rfl hg⟩
theorem over : Rows.wordsTellsRow.holds Tryd.pinned (OpenSpec.ofChange Rows.wordsTellsSpec) :=
  OpenClaim.holds_of_wide 3 Tryd.f3 rfl rfl rfl rfl rfl rfl rfl ⟨rfl, rfl, rfl, rfl, rfl⟩ rfl rfl rfl rfl rfl (by kernel_rfl) Tryd.func3 (by kernel_rfl)
    (of_decide_eq_true (by kernel_rfl)) (by unfold Func.isWrapper; first | (rw [if_pos (by decide +kernel)]; kernel_rfl) | (rw [if_neg (by decide +kernel)]; exact ⟨rfl, rfl⟩))
    (fun os started H enc _ => lifted os started H enc)
/-- ████ THE STATEMENT ████ -/
theorem proved : Rows.WordsTellsCardSaid :=
  Claim7.holds_tied_plain_at .later [] Rows.wordsTellsCard.laidKinds Rows.wordsTellsCard.laidTests Rows.wordsTellsCard.stood.harness Rows.wordsTellsCard.stood.looks over (fun _ h => by cases h) (by kernel_rfl) (fun _ h => by cases h) wordsTells_row_tie rfl ⟨rfl, rfl⟩ (by kernel_rfl) rfl
    (fun f fn hf hfn => by
      obtain rfl : f = 3 := Option.some.inj ((show Tryd.prog.funcNamed Rows.wordsTellsRow.func = some 3 by kernel_rfl).symm.trans hf) |>.symm
      obtain rfl : fn = Tryd.f3 := (Option.some.inj (Tryd.func3.symm.trans hfn)).symm
      exact ⟨by kernel_rfl, no_standin (by kernel_rfl)⟩)
    (by kernel_rfl)
end wordsTells
namespace wordsLines
set_option maxRecDepth 100000 in
theorem lifted (os : Os) (started : os.Started) (H : Type) (enc : TypeId × Value → H) :
    ReturnsInHanded {} Tryd.checked os 4 .any (fun w args => (Rows.wordsLinesSpec.pre enc Tryd.prog Tryd.f4 [] false w args ∧ laidMetH Tryd.prog Rows.wordsLinesRow.laid w) ∧ sizedMet enc Tryd.prog Tryd.f4 (OpenSpec.ofChange Rows.wordsLinesSpec) false w args)
      (Rows.wordsLinesSpec.post enc Tryd.prog Tryd.f4 false true false false) := by
  refine returnsInHanded_of_change_and (C := Tryd.checked) (X := fun w _ => laidMetH Tryd.prog Rows.wordsLinesRow.laid w) (fun _ _ _ hh h => h.of_heap hh) own started (by kernel_rfl) Tryd.func4
    (ChangeSpec.witness_shaped (enc := enc) (C := Tryd.checked) (os := os) (X := fun w _ => laidMetH Tryd.prog Rows.wordsLinesRow.laid w) false (World.laidAll Tryd.prog os Rows.wordsLinesRow.laid) #[.string ByteArray.empty] 8 (World.laidAll_os _ _ _)
      (World.shaped_of_ZipB (by kernel_rfl) (by kernel_rfl)) (by kernel_rfl) (by kernel_rfl) (by kernel_rfl)
      (by rw [MakeChecks.laidMetH_plain _ _ _ (by kernel_rfl)]; exact laidMet_laidAll _ (by kernel_rfl) (by kernel_rfl))) ?_
  intro W base args ds gs before hval0 hW _ _ _ _
  have hval : ∀ (j : Nat) t v, Tryd.f4.params[j]? = some t → args[j]? = some v → Value.okWide Tryd.prog W .any base t v := hval0
  have hW' := hW
  obtain ⟨p, q, hA0, hV, _, _, _⟩ := hW
  have hA : DataW.TrodAll enc Tryd.prog W 0 (fun _ => true) true Tryd.f4.params.toList args.toList ds p := hA0
  rw [Tryd.params4] at hA hval
  obtain ⟨v0, vs0, d0, ds0, p0, q0, hargs, rfl, rfl, h0, r0⟩ := trodAll_cons hA
  obtain ⟨rfl, rfl, rfl⟩ := trodAll_nil r0
  obtain rfl : args = #[v0] := by cases args; simp_all
  obtain ⟨rfl, rfl⟩ := trodVars_none hV
  obtain ⟨a0, rfl, rfl, rfl, w0⟩ := ChangeMaps.open_string Tryd.underlying9 (hval 0 9 v0 rfl rfl) h0
  unfold maxLen at w0
  clear hA0 hval0
  refine (wordsLines_walk W a0 w0).mono fun e W' ⟨he, hg⟩ => ?_
  subst he
  exact ⟨_, rfl, post_law laidOut (by kernel_rfl) (by kernel_rfl) Tryd.underlying4 rfl hW' rfl rfl rfl hg⟩
theorem over : Rows.wordsLinesRow.holds Tryd.pinned (OpenSpec.ofChange Rows.wordsLinesSpec) :=
  OpenClaim.holds_of_wide 4 Tryd.f4 rfl rfl rfl rfl rfl rfl rfl ⟨rfl, rfl, rfl, rfl, rfl⟩ rfl rfl rfl rfl rfl (by kernel_rfl) Tryd.func4 (by kernel_rfl)
    (of_decide_eq_true (by kernel_rfl)) (by unfold Func.isWrapper; first | (rw [if_pos (by decide +kernel)]; kernel_rfl) | (rw [if_neg (by decide +kernel)]; exact ⟨rfl, rfl⟩))
    (fun os started H enc _ => lifted os started H enc)
/-- ████ THE STATEMENT ████ -/
theorem proved : Rows.WordsLinesCardSaid :=
  Claim7.holds_tied_plain_at .later [] Rows.wordsLinesCard.laidKinds Rows.wordsLinesCard.laidTests Rows.wordsLinesCard.stood.harness Rows.wordsLinesCard.stood.looks over (fun _ h => by cases h) (by kernel_rfl) (fun _ h => by cases h) wordsLines_row_tie rfl ⟨rfl, rfl⟩ (by kernel_rfl) rfl
    (fun f fn hf hfn => by
      obtain rfl : f = 4 := Option.some.inj ((show Tryd.prog.funcNamed Rows.wordsLinesRow.func = some 4 by kernel_rfl).symm.trans hf) |>.symm
      obtain rfl : fn = Tryd.f4 := (Option.some.inj (Tryd.func4.symm.trans hfn)).symm
      exact ⟨by kernel_rfl, no_standin (by kernel_rfl)⟩)
    (by kernel_rfl)
end wordsLines
end Go.Proofs.YtdopmhbhhbejpaaDoor
