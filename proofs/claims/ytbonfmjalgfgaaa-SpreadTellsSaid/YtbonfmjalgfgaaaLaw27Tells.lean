/- The first statement of layer 27, proved: which groups are taken, and whether an address's is free, is as the document has it; for all lists of peers, all books and all addresses. -/
import Derived.Test.YtbonfmjalgfgaaaLaw27
namespace Go.Proofs.Ytbonfmjalgfgaaa
set_option maxRecDepth 100000
open Go.ChangeShapes Go.WideShapes Go.ChangeAt Go.RowKit
open Ad Ci En Gr Pe Et Ra Bo Sp Go.Deep
set_option linter.unusedVariables false
abbrev ST27 (p : Nat) (W1 : World) (a : Adr) (w' : World) : Prop := w'.cell? ⟨p, 0, none⟩ = some (.bool a.v6) ∧ w'.cell? ⟨p, 1, none⟩ = some (.int .u64 a.hi) ∧ w'.cell? ⟨p, 2, none⟩ = some (.int .u64 a.lo) ∧ Lows W1 w'
set_option maxHeartbeats 16000000 in
theorem spreadTells_walk (w : World) (v0 : Value) (l : List Pe.Pr) (h0 : Peers w v0 l) (hok : ∀ x ∈ l, x.ok) (v1 : Value) (b : List Ey) (h1 : Books w v1 b) (hyo : ∀ y ∈ b, y.ok) (a : Adr) (ha : a.ok) :
    Calls Try.prog 3 #[v0, v1, .agg #[.bool a.v6, .int .u64 a.hi, .int .u64 a.lo]] w fun e w' => e = .returned (.bool true) ∧ Below w.heap.size w w' := by
  have AW := Lib.hid (fun W => awake27_any W)
  have L1 : Hid (Below w.heap.size w (w.alloc (.cells #[.bool a.v6, .int .u64 a.hi, .int .u64 a.lo] 26))) := Lib.hid ((Below.refl _ _).alloc (Nat.le_refl _) _)
  have OB := Lib.hid (Blk.new w #[.bool a.v6, .int .u64 a.hi, .int .u64 a.lo] 26)
  have PW : Hid (∀ W, Below w.heap.size w W → Peers W v0 l ∧ Books W v1 b) := Lib.hid fun W hW => ⟨h0.below hW, h1.below hW⟩
  obtain ⟨A1, c1, rfl, _, _, _⟩ := h0
  obtain ⟨A2, c2, rfl, _, _, _⟩ := h1
  by_cases h60 : 60 < l.length
  · have h60z : (60 : Int) < (l.length : Int) := by omega
    have hd : decide (60 < l.length) = true := decide_eq_true h60
    clear PW OB hok hyo ha
    go_enter Try.func3, Try.ntmps3
    go_wp2_with fail
    refine (AW.out _).mono ?_; rintro e9 w9 ⟨rfl, hb9⟩
    go_wp2_with fail
    go_ret
    exact ⟨rfl, low_trans L1.out hb9⟩
  · have h60z : ¬ (60 : Int) < (l.length : Int) := by omega
    have hd : decide (60 < l.length) = false := decide_eq_false h60
    by_cases h61 : 60 < b.length
    · have h61z : (60 : Int) < (b.length : Int) := by omega
      have hd2 : decide (60 < b.length) = true := decide_eq_true h61
      clear PW OB hok hyo ha
      go_enter Try.func3, Try.ntmps3
      go_wp2_with fail
      refine (AW.out _).mono ?_; rintro e9 w9 ⟨rfl, hb9⟩
      go_wp2_with fail
      go_ret
      exact ⟨rfl, low_trans L1.out hb9⟩
    · have h61z : ¬ (60 : Int) < (b.length : Int) := by omega
      have hd2 : decide (60 < b.length) = false := decide_eq_false h61
      go_enter Try.func3, Try.ntmps3
      go_wp2_with fail
      obtain ⟨w1, hw1⟩ : ∃ w1, w1 = w.alloc (.cells #[.bool a.v6, .int .u64 a.hi, .int .u64 a.lo] 26) := ⟨_, rfl⟩
      rw [← hw1] at L1 OB ⊢
      clear hw1
      obtain ⟨p, hp⟩ : ∃ p, p = w.heap.size := ⟨_, rfl⟩
      rw [← hp] at OB ⊢
      clear hp
      have IN : Hid (∀ w', Lows w1 w' → ST27 p w1 a w') := Lib.hid fun w' h => ⟨(OB.out.on h).cell (j := 0) rfl, (OB.out.on h).cell (j := 1) rfl, (OB.out.on h).cell (j := 2) rfl, h⟩
      have JD : Hid (∀ W, ST27 p w1 a W → ST27 p w1 a W.drew) := Lib.hid fun W h => IN.out _ (low_drewN h.2.2.2 1)
      have JA : Hid (∀ W o, ST27 p w1 a W → ST27 p w1 a (W.alloc o)) := Lib.hid fun W o h => IN.out _ (Lows.alloc h.2.2.2 o)
      have KT1 : Hid (∀ W, ST27 p w1 a W → Calls Try.prog 7 #[.slice A1 l.length c1, .slice A2 b.length c2] W fun e w' => ∃ u, e = .returned u ∧ Nets w' u (takR l b) ∧ Below W.heap.size W w' ∧ ST27 p w1 a w') := Lib.hid fun W h => by
        exact (takenN_any _ _ l b W (PW.out W (low_trans L1.out h.2.2.2)).1 (PW.out W (low_trans L1.out h.2.2.2)).2 (by omega) (by omega) hok hyo).mono fun e w' ⟨u, h1, h2, h3⟩ => ⟨u, h1, h2, h3, IN.out _ (low_trans h.2.2.2 h3)⟩
      have KT2 : Hid (∀ W, ST27 p w1 a W → Calls Try.prog 8 #[.slice A1 l.length c1, .slice A2 b.length c2] W fun e w' => ∃ u, e = .returned u ∧ Nets w' u (takR l b) ∧ Below W.heap.size W w' ∧ ST27 p w1 a w') := Lib.hid fun W h => by
        exact (rtakenN_any _ _ l b W (PW.out W (low_trans L1.out h.2.2.2)).1 (PW.out W (low_trans L1.out h.2.2.2)).2 (by omega) (by omega) hok hyo).mono fun e w' ⟨u, h1, h2, h3⟩ => ⟨u, h1, h2, h3, IN.out _ (low_trans h.2.2.2 h3)⟩
      have KB : Hid (∀ W x y, ST27 p w1 a W → Nets W x (takR l b) → Nets W y (takR l b) → Calls Try.prog 6 #[x, y] W fun e w' => e = .returned (.bool true) ∧ ST27 p w1 a w') := Lib.hid fun W x y h hx hy => by
        exact (sameNets_any x y (takR l b) W hx hy (by have h3 := puts_len (takL l b) []; have h4 := tak_len l b; unfold takR; simp only [List.length_nil] at h3; omega)).mono fun e w' ⟨h1, h3⟩ => ⟨h1, IN.out _ (low_trans h.2.2.2 h3)⟩
      have KF1 : Hid (∀ W, ST27 p w1 a W → Calls Try.prog 9 #[.slice A1 l.length c1, .slice A2 b.length c2, .agg #[.bool a.v6, .int .u64 a.hi, .int .u64 a.lo]] W fun e w' => e = .returned (.bool (freeR l b a)) ∧ ST27 p w1 a w') := Lib.hid fun W h => by
        have k := freeN_any _ _ l b a W (PW.out W (low_trans L1.out h.2.2.2)).1 (PW.out W (low_trans L1.out h.2.2.2)).2 (by omega) (by omega) hok hyo ha
        exact k.mono fun e w' ⟨h1, h3⟩ => ⟨h1, IN.out _ (low_trans h.2.2.2 h3)⟩
      have KF2 : Hid (∀ W, ST27 p w1 a W → Calls Try.prog 10 #[.slice A1 l.length c1, .slice A2 b.length c2, .agg #[.bool a.v6, .int .u64 a.hi, .int .u64 a.lo]] W fun e w' => e = .returned (.bool (freeR l b a)) ∧ ST27 p w1 a w') := Lib.hid fun W h => by
        have k := rfreeN_any _ _ l b a W (PW.out W (low_trans L1.out h.2.2.2)).1 (PW.out W (low_trans L1.out h.2.2.2)).2 (by omega) (by omega) hok hyo ha
        exact k.mono fun e w' ⟨h1, h3⟩ => ⟨h1, IN.out _ (low_trans h.2.2.2 h3)⟩
      have KW : Hid (∀ W, ST27 p w1 a W → Calls Try.prog 5 #[] W fun e w' => e = .returned (.bool true) ∧ ST27 p w1 a w') := Lib.hid fun W h => by
        have k := AW.out W
        exact k.mono fun e w' ⟨h1, h3⟩ => ⟨h1, IN.out _ (low_trans h.2.2.2 h3)⟩
      obtain ⟨fr, hfr⟩ : ∃ r, freeR l b a = r := ⟨_, rfl⟩
      rw [hfr] at KF1 KF2
      have zf : (fr == fr) = true := by simp
      have hk0 : ST27 p w1 a w1 := IN.out _ (Lows.self _)
      have hkd : ST27 p w1 a w1.drew := JD.out _ hk0
      obtain ⟨t0, t1, t2, t3⟩ := id hk0
      clear IN OB PW hok hyo ha hfr
      go_region_held3 (fun w' => w'.cell? ⟨p, 0, none⟩ = some (.bool a.v6) ∧ w'.cell? ⟨p, 1, none⟩ = some (.int .u64 a.hi) ∧ w'.cell? ⟨p, 2, none⟩ = some (.int .u64 a.lo) ∧ Lows w1 w')
        (first | (with_reducible assumption) | (repeat (first | (with_reducible assumption) | (with_reducible refine JD.out _ ?_) | (with_reducible refine JA.out _ _ ?_))))
        (first
      | (go_at_call 9; (with_reducible refine (KF1.out _ (by with_reducible assumption)).mono ?_); rintro e w9 ⟨rfl, hkw⟩)
      | (go_at_call 10; (with_reducible refine (KF2.out _ (by with_reducible assumption)).mono ?_); rintro e w9 ⟨rfl, hkw⟩)
      | (go_at_call 5; (with_reducible refine (KW.out _ (by with_reducible assumption)).mono ?_); rintro e w9 ⟨rfl, hkw⟩)
      | (go_at_call 7; (with_reducible refine (KT1.out _ (by with_reducible assumption)).mono ?_); rintro e w9 ⟨ua, rfl, hUa, hba, hkw⟩; (try have hUb2 := hUb.below hba))
      | (go_at_call 8; (with_reducible refine (KT2.out _ (by with_reducible assumption)).mono ?_); rintro e w9 ⟨ub, rfl, hUb, hbb, hkw⟩; (try have hUa2 := hUa.below hbb))
      | (go_at_call 6; (first | (with_reducible refine (KB.out _ _ _ (by with_reducible assumption) hUa2 hUb).mono ?_) | (with_reducible refine (KB.out _ _ _ (by with_reducible assumption) hUa hUb2).mono ?_)); rintro e w9 ⟨rfl, hkw⟩))
      all_goals
        have HL9 := Lib.hid (L1.out.trans (hkw.2.2.2.mono L1.out.size))
        go_wp2_with fail
        go_ret
        exact ⟨rfl, HL9.out⟩
namespace spreadTells
theorem contract (H : Type) (enc : TypeId × Value → H) (W : World) (base : Nat) (args : Array Value) (ds gs : List (DataW H)) (before : List MemPlace)
    (hval0 : ∀ (j : Nat) t v, Try.f3.params[j]? = some t → args[j]? = some v → Value.okWide Try.prog W .any base t v)
    (hW : DataW.Whole enc Try.prog Try.f3.params.toList Rows.spreadTellsSpec.vars false W args.toList ds gs before) (hSh : W.ShapedOpen Try.prog) :
    Calls Try.prog 3 args W fun e W' => ∃ v, e = .returned v ∧ Rows.spreadTellsSpec.post enc Try.prog Try.f3 false true false false W args v W' := by
  have hval : ∀ (j : Nat) t v, Try.f3.params[j]? = some t → args[j]? = some v → Value.okWide Try.prog W .any base t v := hval0
  have hW' := hW
  obtain ⟨p, q, hA0, hV, _, _, _⟩ := hW
  have hA : DataW.TrodAll enc Try.prog W 0 (fun _ => true) true Try.f3.params.toList args.toList ds p := hA0
  rw [Try.params3] at hA hval
  obtain ⟨v0, vs0, d0, ds0, p0, q0, hargs, rfl, rfl, h0, r0⟩ := trodAll_cons hA
  obtain ⟨v1, vs1, d1, ds1, p1, q1, rfl, rfl, rfl, h1, r1⟩ := trodAll_cons r0
  obtain ⟨v2, vs2, d2, ds2, p2, q2, rfl, rfl, rfl, h2, r2⟩ := trodAll_cons r1
  obtain ⟨rfl, rfl, rfl⟩ := trodAll_nil r2
  obtain rfl : args = #[v0, v1, v2] := by cases args; simp_all
  obtain ⟨rfl, rfl⟩ := trodVars_none hV
  obtain ⟨l0, t0, n0, s0⟩ := open_peers (hval 0 22 v0 rfl rfl) h0
  obtain ⟨l1, t1, n1, s1⟩ := open_book (hval 1 23 v1 rfl rfl) h1
  obtain ⟨a2, z2, rfl, rfl, rfl⟩ := open_adr (tb := 4) (ti := 24) Try.underlying26 (by kernel_rfl) (by kernel_rfl) rfl rfl rfl Try.underlying4 Try.underlying24 (hval 2 26 v2 rfl rfl) h2
  clear hA0 hval0
  refine (spreadTells_walk W v0 l0 t0 s0 v1 l1 t1 s1 a2 z2).mono fun e W' ⟨he, hg⟩ => ?_
  subst he
  exact ⟨_, rfl, post_law laidOut (by kernel_rfl) (by kernel_rfl) Try.underlying4 rfl hW' rfl rfl rfl hg⟩
set_option maxRecDepth 100000 in
theorem lifted (os : Os) (started : os.Started) (H : Type) (enc : TypeId × Value → H) (F : Stop.Interp) :
    ReturnsInHanded {} Try.checked os 3 .any ((OpenSpec.ofChange Rows.spreadTellsSpec).preRow enc Try.prog Try.f3 Rows.spreadTellsRow.domain false Rows.spreadTellsRow.laid) (((OpenSpec.ofChange Rows.spreadTellsSpec).at F).post enc Try.prog Try.f3 false true false false) := by
  refine returnsInHanded_of_row (C := Try.checked) (s := OpenSpec.ofChange Rows.spreadTellsSpec) own started (by kernel_rfl) Try.func3
    (witness_laid (enc := enc) (C := Try.checked) (s := OpenSpec.ofChange Rows.spreadTellsSpec) (laid := Rows.spreadTellsRow.laid) #[.slice none 0 0, .slice none 0 0, .agg #[.bool false, .int .u64 0, .int .u64 0]] (World.shaped_of_ZipB (by kernel_rfl) (by kernel_rfl)) (by kernel_rfl)
      (OpenSpec.preRow_of_cond 8 (x := ([.nil, .nil, .agg [.lit (.bool false), .lit (.int .u64 0), .lit (.int .u64 0)]], [], [])) (by kernel_rfl) (by kernel_rfl) (fun k hk => by cases hk) (by kernel_rfl)
        (by rw [MakeChecks.laidMetH_plain _ _ _ (by kernel_rfl)]; exact laidMet_laidAll _ (by kernel_rfl) (by kernel_rfl)))) ?_
  intro W base args ds gs before hval hW _ hcond _ _ hsh _
  exact contract H enc W base args ds gs before hval hW hsh
theorem over : Rows.spreadTellsRow.holds Try.pinned (OpenSpec.ofChange Rows.spreadTellsSpec) :=
  OpenClaim.holds_of_cond 3 Try.f3 rfl rfl rfl rfl rfl rfl rfl ⟨rfl, rfl, rfl, rfl, rfl⟩ rfl rfl rfl rfl rfl (by kernel_rfl) Try.func3 (by kernel_rfl)
    (of_decide_eq_true (by kernel_rfl)) (by unfold Func.isWrapper; first | (rw [if_pos (by decide +kernel)]; kernel_rfl) | (rw [if_neg (by decide +kernel)]; exact ⟨rfl, rfl⟩))
    (fun os started H enc _ F => by rw [OpenClaim.pre_eq_preRow]; exact lifted os started H enc F)
/-- ████ THE STATEMENT ████ -/
theorem proved : Rows.SpreadTellsSaid := over
end spreadTells
end Go.Proofs.Ytbonfmjalgfgaaa
