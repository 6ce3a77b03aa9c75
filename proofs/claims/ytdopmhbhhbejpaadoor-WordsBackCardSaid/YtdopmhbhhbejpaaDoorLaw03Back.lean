/- The statement WordsBack, proved: what was cut, put together, is the text; what was put together is cut as it was; a text that may be is its lines; for all texts and lists, under the row's listed variables. -/
import Derived.Test.YtdopmhbhhbejpaaDoorLaw03
namespace Go.Proofs.YtdopmhbhhbejpaaDoor
open Go.ChangeShapes Go.WideShapes Go.ChangeAt Go.RowKit
open Words
set_option linter.unusedVariables false
theorem ends_take_le (ls : List (List UInt8)) (k : Nat) : (ends (ls.take k)).length ≤ (ends ls).length := by
  conv => rhs; rw [← List.take_append_drop k ls]
  rw [show ends (ls.take k ++ ls.drop k) = ends (ls.take k) ++ ends (ls.drop k) from by unfold ends; exact List.flatMap_append, List.length_append]
  omega
theorem ends_next (ls : List (List UInt8)) (k : Nat) (h : k < ls.length) : ends (ls.take (k + 1)) = ends (ls.take k) ++ (ls[k] ++ [10]) := by
  rw [List.take_succ_eq_append_getElem h, ends_snoc]
theorem cat_end {a b d : List UInt8} (h : d = a ++ (b ++ [10])) : Value.string (⟨a.toArray⟩ ++ ⟨b.toArray⟩ ++ ⟨#[10]⟩) = .string ⟨d.toArray⟩ := by
  show Value.string (⟨a.toArray⟩ ++ ⟨b.toArray⟩ ++ ⟨[10].toArray⟩) = _
  rw [ByteArray.mk_append_mk, ByteArray.mk_append_mk, h, List.append_assoc]
theorem take_all_in {c : UInt8} {ls : List (List UInt8)} {k : Nat} (h : k < ls.length) (ha : ∀ x ∈ ls.take k, c ∉ x) (hc : c ∉ ls[k]) : ∀ x ∈ ls.take (k + 1), c ∉ x := by
  rw [List.take_succ_eq_append_getElem h]
  intro x hx
  rcases List.mem_append.1 hx with hx | hx
  · exact ha x hx
  · simp at hx; subst hx; exact hc
set_option maxHeartbeats 8000000 in
set_option maxRecDepth 100000 in
theorem wordsBack_walk (w : World) (s : ByteArray) (hs : s.size ≤ 9223372036854775807) (c : UInt8) (v : Value) (ls : List (List UInt8)) (h : Txts w v ls) (hn : ls.length ≤ 9223372036854775807) (hz : ∀ l ∈ ls, l.length ≤ 9223372036854775807) :
    Calls Tryd.prog 5 #[.string s, .int .u8 (c.toNat : Int), v] w fun e w' => e = .returned (.bool true) ∧ Below w.heap.size w w' := by
  by_cases h7 : 70000 < s.size
  · go_enter Tryd.func5, Tryd.ntmps5
    go_wp2_with fail
    refine (awake03_any _).mono ?_
    rintro e w1 ⟨rfl, hb1⟩
    go_wp2_with fail
    go_ret
    exact ⟨rfl, hb1⟩
  · have HL := Lib.hid (light_any v ls w h hn hz)
    clear hz
    have HT := Lib.hid h
    obtain ⟨A, cap, rfl, hcap, hcell⟩ := h
    have HC := Lib.hid hcell
    clear hcell
    cases hl : lightB ls
    · rw [hl] at HL
      go_enter Tryd.func5, Tryd.ntmps5
      go_wp2_with fail
      refine HL.out.mono ?_
      rintro e w' ⟨rfl, rfl⟩
      go_wp2_with fail
      refine (awake03_any _).mono ?_
      rintro e w1 ⟨rfl, hb1⟩
      go_wp2_with fail
      go_ret
      exact ⟨rfl, hb1⟩
    · have hN := (of_lightB hl).1
      have hA := (of_lightB hl).2
      have g1 := glue_bound (c := c) hA
      have g3 : ls.length * (1000 + 1) ≤ 100 * 1001 := Nat.mul_le_mul hN (Nat.le_refl _)
      have hc := cut_small c s.data.toList
      rw [len_size] at hc
      rw [hl] at HL
      have HA := Lib.hid hA
      clear hA hl
      have e1 := glue_cut c s.data.toList
      have E1 := Lib.hid e1
      have hlen : (glue c (cut c s.data.toList)).length ≤ 70000 := by rw [e1, len_size]; omega
      clear e1
      cases hE : decide (lineE s.data.toList = 0)
      all_goals
        go_enter Tryd.func5, Tryd.ntmps5
        go_wp2_with fail
        refine HL.out.mono ?_
        rintro e w' ⟨rfl, rfl⟩
        go_wp2_with fail
        refine (split_any s c _ (by omega)).mono ?_
        rintro e w1 ⟨va, rfl, ha, hb1⟩
        go_wp2_with fail
        refine (join_any va _ c _ ha (by omega) (by omega)).mono ?_
        rintro e w2 ⟨rfl, hb2⟩
        rw [E1.out, str_same]
        have b2 := low_trans hb1 hb2
        clear hb1 hb2 ha
        go_wp2_with fail
        refine (lines_any s _ hs).mono ?_
        rintro e w3 ⟨vl, rfl, hv, hb3⟩
        have b3 := low_trans b2 hb3
        clear hb3 b2
      · have hne : lineE s.data.toList ≠ 0 := of_decide_eq_false hE
        have hq : (lineE s.data.toList == 0) = false := by rw [beq_eq_false_iff_ne]; exact hne
        clear hE hne hv
        go_wp2_with fail
        go_loopw [11] (fun i wq => ∃ k : Nat, k ≤ ls.length ∧ i = .int .i64 k ∧ Hid (∀ x ∈ ls.take k, c ∉ x) ∧ Below w.heap.size w wq) (fun i _ => ls.length - (intOf i).toNat)
        case atStart => exact ⟨0, Nat.zero_le _, rfl, Lib.hid (by simp), b3⟩
        case round =>
          clear b3
          obtain ⟨k, hk, rfl, HK, bq⟩ := hrel
          by_cases hlt : k < ls.length
          · obtain ⟨b, o, rfl, hb, hx⟩ := HC.out (by omega)
            have h1 := (bq.cell (p := ⟨b, o + k, none⟩) hb).trans (hx k hlt)
            have hlk := HA.out ls[k] (List.getElem_mem _)
            have hcs := cut_small c ls[k]
            clear hx
            cases hone : decide ((cut c ls[k]).length = 1)
            · have hq1 : (((cut c ls[k]).length : Int) == 1) = false := by rw [beq_eq_false_iff_ne]; have := of_decide_eq_false hone; omega
              have hq2 : (((cut c ls[k]).length : Int) != 1) = true := by rw [bne_iff_ne]; have := of_decide_eq_false hone; omega
              clear hone
              go_wp2_with fail
              refine (split_list ls[k] c _ (by omega)).mono ?_
              rintro e wx ⟨vx, rfl, ⟨Ax, cx, rfl, _, _⟩, hbx⟩
              go_wp2_with fail
              refine (awake03_any _).mono ?_
              rintro e wy ⟨rfl, hby⟩
              go_wp2_with fail
              go_ret
              exact ⟨rfl, low_trans (low_trans bq hbx) hby⟩
            · have hq1 : (((cut c ls[k]).length : Int) == 1) = true := by rw [beq_iff_eq]; have := of_decide_eq_true hone; omega
              have hq2 : (((cut c ls[k]).length : Int) != 1) = false := by rw [bne_eq_false_iff_eq]; have := of_decide_eq_true hone; omega
              have HK2 := Lib.hid (take_all_in hlt HK.out (cut_one.1 (of_decide_eq_true hone)))
              clear hone
              go_wp2_with fail
              refine (split_list ls[k] c _ (by omega)).mono ?_
              rintro e wx ⟨vx, rfl, ⟨Ax, cx, rfl, _, _⟩, hbx⟩
              go_wp2_with fail
              go_roundw
              case rel => exact ⟨k + 1, by omega, by go_num, HK2, low_trans bq hbx⟩
              case measure => simp [intOf]; omega
          · have hK := HK.out
            rw [List.take_of_length_le (by omega)] at hK
            cases hnil : decide (ls.length = 0)
            · have hq1 : ((ls.length : Int) == 0) = false := by rw [beq_eq_false_iff_ne]; have := of_decide_eq_false hnil; omega
              have HG := Lib.hid (cut_glue (c := c) (by intro e; have := of_decide_eq_false hnil; rw [e] at this; simp at this) hK)
              clear hnil hK
              go_wp2_with fail
              refine (join_any _ ls c _ (HT.out.below bq) (by omega) (by omega)).mono ?_
              rintro e wx ⟨rfl, hbx⟩
              have bx := low_trans bq hbx
              clear hbx bq
              go_wp2_with fail
              refine (split_list _ c _ (by omega)).mono ?_
              rw [HG.out]
              rintro e wy ⟨vy, rfl, hy, hby⟩
              have bby := low_trans bx hby
              clear hby bx
              go_wp2_with fail
              refine (texts_any vy _ ls ls _ hy (HT.out.below bby) (by omega)).mono ?_
              rintro e wz ⟨rfl, hbz⟩
              rw [sameB_refl]
              have bz := low_trans bby hbz
              clear hbz bby hy
              go_wp2_with fail
              refine (awake03_any _).mono ?_
              rintro e wu ⟨rfl, hbu⟩
              go_wp2_with fail
              go_ret
              exact ⟨rfl, low_trans bz hbu⟩
            · have hq1 : ((ls.length : Int) == 0) = true := by rw [beq_iff_eq]; have := of_decide_eq_true hnil; omega
              clear hnil hK
              go_wp2_with fail
              refine (awake03_any _).mono ?_
              rintro e wu ⟨rfl, hbu⟩
              go_wp2_with fail
              go_ret
              exact ⟨rfl, low_trans bq hbu⟩
      · have he0 : lineE s.data.toList = 0 := of_decide_eq_true hE
        clear hE
        rw [lineL_ok he0] at hv
        rw [he0]
        have hends := ends_lines (lineE_ok_iff.1 he0).2
        clear he0
        obtain ⟨ll, hll⟩ : ∃ ll, (cut 10 s.data.toList).dropLast = ll := ⟨_, rfl⟩
        rw [hll] at hv hends
        clear hll
        have HE := Lib.hid hends
        have hel : (ends ll).length ≤ 70000 := by rw [hends, len_size]; omega
        clear hends
        have hll2 : ll.length ≤ (ends ll).length := by
          have : ∀ xs : List (List UInt8), xs.length ≤ (ends xs).length := by
            intro xs; induction xs with
            | nil => simp
            | cons x r ih => rw [show ends (x :: r) = (x ++ [10]) ++ ends r from rfl]; simp; omega
          exact this ll
        obtain ⟨Al, cl, rfl, hcl, hxl⟩ := hv
        have HX := Lib.hid hxl
        clear hxl
        go_wp2_with fail
        go_loop [9, 10] (fun t i => ∃ k : Nat, k ≤ ll.length ∧ i = .int .i64 k ∧ t = .string ⟨(ends (ll.take k)).toArray⟩) (fun _ i => ll.length - (intOf i).toNat)
        case atStart => exact ⟨0, Nat.zero_le _, rfl, rfl⟩
        case round =>
          obtain ⟨k, hk, rfl, rfl⟩ := hrel
          by_cases hlt : k < ll.length
          · obtain ⟨b, o, rfl, hb, hx⟩ := HX.out (by omega)
            have h1 := hx k hlt
            clear hx
            have he1 := ends_take_le ll (k + 1)
            have HN := Lib.hid (ends_next ll k hlt)
            have he2 : (ends (ll.take k)).length + ll[k].length + 1 ≤ 70000 := by
              have := congrArg List.length HN.out
              simp only [List.length_append, List.length_cons, List.length_nil] at this
              omega
            clear he1
            go_wp2
            go_round
            case rel => exact ⟨k + 1, by omega, by go_num, cat_end HN.out⟩
            case measure => simp [intOf]; omega
          · have HE2 : Hid (ends (ll.take k) = s.data.toList) := by rw [List.take_of_length_le (by omega)]; exact HE
            rw [HE2.out, str_same]
            clear HE2 HE HX
            go_wp2_with fail
            go_loopw [11] (fun i wq => ∃ k : Nat, k ≤ ls.length ∧ i = .int .i64 k ∧ Hid (∀ x ∈ ls.take k, c ∉ x) ∧ Below w.heap.size w wq) (fun i _ => ls.length - (intOf i).toNat)
            case atStart => exact ⟨0, Nat.zero_le _, rfl, Lib.hid (by simp), b3⟩
            case round =>
              clear b3
              obtain ⟨k, hk, rfl, HK, bq⟩ := hrel
              by_cases hlt : k < ls.length
              · obtain ⟨b, o, rfl, hb, hx⟩ := HC.out (by omega)
                have h1 := (bq.cell (p := ⟨b, o + k, none⟩) hb).trans (hx k hlt)
                have hlk := HA.out ls[k] (List.getElem_mem _)
                have hcs := cut_small c ls[k]
                clear hx
                cases hone : decide ((cut c ls[k]).length = 1)
                · have hq1 : (((cut c ls[k]).length : Int) == 1) = false := by rw [beq_eq_false_iff_ne]; have := of_decide_eq_false hone; omega
                  have hq2 : (((cut c ls[k]).length : Int) != 1) = true := by rw [bne_iff_ne]; have := of_decide_eq_false hone; omega
                  clear hone
                  go_wp2_with fail
                  refine (split_list ls[k] c _ (by omega)).mono ?_
                  rintro e wx ⟨vx, rfl, ⟨Ax, cx, rfl, _, _⟩, hbx⟩
                  go_wp2_with fail
                  refine (awake03_any _).mono ?_
                  rintro e wy ⟨rfl, hby⟩
                  go_wp2_with fail
                  go_ret
                  exact ⟨rfl, low_trans (low_trans bq hbx) hby⟩
                · have hq1 : (((cut c ls[k]).length : Int) == 1) = true := by rw [beq_iff_eq]; have := of_decide_eq_true hone; omega
                  have hq2 : (((cut c ls[k]).length : Int) != 1) = false := by rw [bne_eq_false_iff_eq]; have := of_decide_eq_true hone; omega
                  have HK2 := Lib.hid (take_all_in hlt HK.out (cut_one.1 (of_decide_eq_true hone)))
                  clear hone
                  go_wp2_with fail
                  refine (split_list ls[k] c _ (by omega)).mono ?_
                  rintro e wx ⟨vx, rfl, ⟨Ax, cx, rfl, _, _⟩, hbx⟩
                  go_wp2_with fail
                  go_roundw
                  case rel => exact ⟨k + 1, by omega, by go_num, HK2, low_trans bq hbx⟩
                  case measure => simp [intOf]; omega
              · have hK := HK.out
                rw [List.take_of_length_le (by omega)] at hK
                cases hnil : decide (ls.length = 0)
                · have hq1 : ((ls.length : Int) == 0) = false := by rw [beq_eq_false_iff_ne]; have := of_decide_eq_false hnil; omega
                  have HG := Lib.hid (cut_glue (c := c) (by intro e; have := of_decide_eq_false hnil; rw [e] at this; simp at this) hK)
                  clear hnil hK
                  go_wp2_with fail
                  refine (join_any _ ls c _ (HT.out.below bq) (by omega) (by omega)).mono ?_
                  rintro e wx ⟨rfl, hbx⟩
                  have bx := low_trans bq hbx
                  clear hbx bq
                  go_wp2_with fail
                  refine (split_list _ c _ (by omega)).mono ?_
                  rw [HG.out]
                  rintro e wy ⟨vy, rfl, hy, hby⟩
                  have bby := low_trans bx hby
                  clear hby bx
                  go_wp2_with fail
                  refine (texts_any vy _ ls ls _ hy (HT.out.below bby) (by omega)).mono ?_
                  rintro e wz ⟨rfl, hbz⟩
                  rw [sameB_refl]
                  have bz := low_trans bby hbz
                  clear hbz bby hy
                  go_wp2_with fail
                  refine (awake03_any _).mono ?_
                  rintro e wu ⟨rfl, hbu⟩
                  go_wp2_with fail
                  go_ret
                  exact ⟨rfl, low_trans bz hbu⟩
                · have hq1 : ((ls.length : Int) == 0) = true := by rw [beq_iff_eq]; have := of_decide_eq_true hnil; omega
                  clear hnil hK
                  go_wp2_with fail
                  refine (awake03_any _).mono ?_
                  rintro e wu ⟨rfl, hbu⟩
                  go_wp2_with fail
                  go_ret
                  exact ⟨rfl, low_trans bq hbu⟩
namespace wordsBack
set_option maxRecDepth 100000 in
theorem lifted (os : Os) (started : os.Started) (H : Type) (enc : TypeId × Value → H) :
    ReturnsInHanded {} Tryd.checked os 5 .any (fun w args => (Rows.wordsBackSpec.pre enc Tryd.prog Tryd.f5 [] false w args ∧ laidMetH Tryd.prog Rows.wordsBackRow.laid w) ∧ sizedMet enc Tryd.prog Tryd.f5 (OpenSpec.ofChange Rows.wordsBackSpec) false w args)
      (Rows.wordsBackSpec.post enc Tryd.prog Tryd.f5 false true false false) := by
  refine returnsInHanded_of_change_and (C := Tryd.checked) (X := fun w _ => laidMetH Tryd.prog Rows.wordsBackRow.laid w) (fun _ _ _ hh h => h.of_heap hh) own started (by kernel_rfl) Tryd.func5
    (ChangeSpec.witness_shaped (enc := enc) (C := Tryd.checked) (os := os) (X := fun w _ => laidMetH Tryd.prog Rows.wordsBackRow.laid w) false (World.laidAll Tryd.prog os Rows.wordsBackRow.laid) #[.string ByteArray.empty, .int .u8 0, .slice none 0 0] 8 (World.laidAll_os _ _ _)
      (World.shaped_of_ZipB (by kernel_rfl) (by kernel_rfl)) (by kernel_rfl) (by kernel_rfl) (by kernel_rfl)
      (by rw [MakeChecks.laidMetH_plain _ _ _ (by kernel_rfl)]; exact laidMet_laidAll _ (by kernel_rfl) (by kernel_rfl))) ?_
  intro W base args ds gs before hval0 hW _ _ _ _
  have hval : ∀ (j : Nat) t v, Tryd.f5.params[j]? = some t → args[j]? = some v → Value.okWide Tryd.prog W .any base t v := hval0
  have hW' := hW
  obtain ⟨p, q, hA0, hV, _, _, _⟩ := hW
  have hA : DataW.TrodAll enc Tryd.prog W 0 (fun _ => true) true Tryd.f5.params.toList args.toList ds p := hA0
  rw [Tryd.params5] at hA hval
  obtain ⟨v0, vs0, d0, ds0, p0, q0, hargs, rfl, rfl, h0, r0⟩ := trodAll_cons hA
  obtain ⟨v1, vs1, d1, ds1, p1, q1, rfl, rfl, rfl, h1, r1⟩ := trodAll_cons r0
  obtain ⟨v2, vs2, d2, ds2, p2, q2, rfl, rfl, rfl, h2, r2⟩ := trodAll_cons r1
  obtain ⟨rfl, rfl, rfl⟩ := trodAll_nil r2
  obtain rfl : args = #[v0, v1, v2] := by cases args; simp_all
  obtain ⟨rfl, rfl⟩ := trodVars_none hV
  obtain ⟨a0, rfl, rfl, rfl, w0⟩ := ChangeMaps.open_string Tryd.underlying9 (hval 0 9 v0 rfl rfl) h0
  unfold maxLen at w0
  obtain ⟨b1, rfl, rfl, rfl, w1⟩ := open_int Tryd.underlying5 (hval 1 5 v1 rfl rfl) h1
  obtain ⟨a1, rfl⟩ := byte_of w1
  obtain ⟨l2, t2, n2, s2⟩ := open_txts Tryd.underlying22 Tryd.underlying9 (by kernel_rfl) (hval 2 22 v2 rfl rfl) h2
  clear hA0 hval0
  refine (wordsBack_walk W a0 w0 a1 v2 l2 t2 n2 s2).mono fun e W' ⟨he, hg⟩ => ?_
  subst he
  exact ⟨_, rfl, post_law laidOut (by kernel_rfl) (by kernel_rfl) Tryd.underlying4 rfl hW' rfl rfl rfl hg⟩
theorem over : Rows.wordsBackRow.holds Tryd.pinned (OpenSpec.ofChange Rows.wordsBackSpec) :=
  OpenClaim.holds_of_wide 5 Tryd.f5 rfl rfl rfl rfl rfl rfl rfl ⟨rfl, rfl, rfl, rfl, rfl⟩ rfl rfl rfl rfl rfl (by kernel_rfl) Tryd.func5 (by kernel_rfl)
    (of_decide_eq_true (by kernel_rfl)) (by unfold Func.isWrapper; first | (rw [if_pos (by decide +kernel)]; kernel_rfl) | (rw [if_neg (by decide +kernel)]; exact ⟨rfl, rfl⟩))
    (fun os started H enc _ => lifted os started H enc)
/-- ████ THE STATEMENT ████ -/
theorem proved : Rows.WordsBackCardSaid :=
  Claim7.holds_tied_plain_at .later [] Rows.wordsBackCard.laidKinds Rows.wordsBackCard.laidTests Rows.wordsBackCard.stood.harness Rows.wordsBackCard.stood.looks over (fun _ h => by cases h) (by kernel_rfl) (fun _ h => by cases h) wordsBack_row_tie rfl ⟨rfl, rfl⟩ (by kernel_rfl) rfl
    (fun f fn hf hfn => by
      obtain rfl : f = 5 := Option.some.inj ((show Tryd.prog.funcNamed Rows.wordsBackRow.func = some 5 by kernel_rfl).symm.trans hf) |>.symm
      obtain rfl : fn = Tryd.f5 := (Option.some.inj (Tryd.func5.symm.trans hfn)).symm
      exact ⟨by kernel_rfl, no_standin (by kernel_rfl)⟩)
    (by kernel_rfl)
end wordsBack
end Go.Proofs.YtdopmhbhhbejpaaDoor
