/- The first statement of layer 26, proved: what becomes of any book, whatever is added, or set, is as the document has it; for all lists of entries, all entries and numbers. -/
import Derived.Test.YtnflgcpacacnlaaLaw26
import Derived.Deep.RegionHeld3
namespace Go.Proofs.Ytnflgcpacacnlaa
set_option maxRecDepth 100000
open Go.ChangeShapes Go.WideShapes Go.ChangeAt Go.RowKit
open Ad Ci En Sat Bk Et Bo Go.Deep
set_option linter.unusedVariables false
abbrev ST26 (b : Nat) (W2 : World) (y : Ey) (w' : World) : Prop := w'.cell? ⟨b, 0, none⟩ = some (.bool y.e.a.v6) ∧ w'.cell? ⟨b, 1, none⟩ = some (.int .u64 y.e.a.hi) ∧ w'.cell? ⟨b, 2, none⟩ = some (.int .u64 y.e.a.lo) ∧ w'.cell? ⟨b, 3, none⟩ = some (.int .i64 y.e.n) ∧ w'.cell? ⟨b, 4, none⟩ = some (.int .i64 y.st) ∧ w'.cell? ⟨b, 5, none⟩ = some (.int .i64 y.f) ∧ w'.cell? ⟨b, 6, none⟩ = some (.int .i64 y.nx) ∧ Lows W2 w'
set_option maxHeartbeats 16000000 in
theorem bookTells_walk (w : World) (v : Value) (l : List Ey) (h : Books w v l) (hok : ∀ x ∈ l, x.ok) (y : Ey) (hy : y.ok) (most : Int) (hm : -9223372036854775808 ≤ most ∧ most ≤ 9223372036854775807) :
    Calls Try.prog 3 #[v, .agg #[.bool y.e.a.v6, .int .u64 y.e.a.hi, .int .u64 y.e.a.lo, .int .i64 y.e.n, .int .i64 y.st, .int .i64 y.f, .int .i64 y.nx], .int .i64 most] w fun e w' => e = .returned (.bool true) ∧ Below w.heap.size w w' := by
  have AW := Lib.hid (fun W => awake26_any W)
  have L0 : Hid (Lows w (w.alloc (.cells #[.bool y.e.a.v6, .int .u64 y.e.a.hi, .int .u64 y.e.a.lo, .int .i64 y.e.n, .int .i64 y.st, .int .i64 y.f, .int .i64 y.nx] 29))) := Lib.hid (Lows.alloc (Lows.self w) _)
  have OB := Lib.hid (Blk.new w #[.bool y.e.a.v6, .int .u64 y.e.a.hi, .int .u64 y.e.a.lo, .int .i64 y.e.n, .int .i64 y.st, .int .i64 y.f, .int .i64 y.nx] 29)
  have PW : Hid (∀ W, Below w.heap.size w W → Books W v l) := Lib.hid fun W hW => h.below hW
  obtain ⟨A, c, rfl, _, _, _⟩ := h
  by_cases h60 : 60 < l.length
  · have h60z : (60 : Int) < (l.length : Int) := by omega
    clear PW OB hok hy
    go_enter Try.func3, Try.ntmps3
    go_wp2_with fail
    refine (AW.out _).mono ?_; rintro e9 w9 ⟨rfl, hb9⟩
    go_wp2_with fail
    go_ret
    exact ⟨rfl, low_trans L0.out hb9⟩
  · have h60z : ¬ (60 : Int) < (l.length : Int) := by omega
    have KA := Lib.hid (addL_any (.slice A l.length c) l y most (w.alloc (.cells #[.bool y.e.a.v6, .int .u64 y.e.a.hi, .int .u64 y.e.a.lo, .int .i64 y.e.n, .int .i64 y.st, .int .i64 y.f, .int .i64 y.nx] 29)) (PW.out _ L0.out) hok hy (by omega))
    have KRA := Lib.hid (fun (W : World) (hW : Below w.heap.size w W) => raddL_any (.slice A l.length c) l y most W (PW.out W hW) hok hy (by omega))
    go_enter Try.func3, Try.ntmps3
    go_wp2_with fail
    refine KA.out.mono ?_; rintro e9 w1 ⟨u1, rfl, hU1, hb1⟩
    have L1 := Lib.hid (low_trans L0.out hb1)
    have OB1 := Lib.hid (OB.out.on hb1)
    have HU1a := Lib.hid hU1
    have KR1a := Lib.hid (KRA.out w1 L1.out)
    have b0 := OB1.out.cell (j := 0) rfl
    have b1 := OB1.out.cell (j := 1) rfl
    have b2 := OB1.out.cell (j := 2) rfl
    have b3 := OB1.out.cell (j := 3) rfl
    have b4 := OB1.out.cell (j := 4) rfl
    have b5 := OB1.out.cell (j := 5) rfl
    have b6 := OB1.out.cell (j := 6) rfl
    clear hU1 hb1 KA KRA OB
    go_wp2_with fail
    refine KR1a.out.mono ?_; rintro e9 w2 ⟨u2, rfl, hU2, hb2⟩
    have L2 := Lib.hid (low_trans L1.out hb2)
    have OB2 := Lib.hid (OB1.out.on hb2)
    have HU1 := Lib.hid (HU1a.out.below hb2)
    have HU2 := Lib.hid hU2
    clear hU2 hb2 KR1a OB1 HU1a L1 L0 b0 b1 b2 b3 b4 b5 b6
    obtain ⟨b, hbb⟩ : ∃ b, b = w.heap.size := ⟨_, rfl⟩
    rw [← hbb] at OB2 ⊢
    clear hbb
    obtain ⟨rb, hrb⟩ : ∃ r, rightB l = r := ⟨_, rfl⟩
    obtain ⟨fi, hfi⟩ : ∃ r, findR l y.e = r := ⟨_, rfl⟩
    obtain ⟨n1, hn1⟩ : ∃ r, countR l most = r := ⟨_, rfl⟩
    obtain ⟨n2, hn2⟩ : ∃ r, countR l y.st = r := ⟨_, rfl⟩
    have IN : Hid (∀ w', Lows w2 w' → ST26 b w2 y w') := Lib.hid fun w' h => ⟨(OB2.out.on h).cell (j := 0) rfl, (OB2.out.on h).cell (j := 1) rfl, (OB2.out.on h).cell (j := 2) rfl, (OB2.out.on h).cell (j := 3) rfl, (OB2.out.on h).cell (j := 4) rfl, (OB2.out.on h).cell (j := 5) rfl, (OB2.out.on h).cell (j := 6) rfl, h⟩
    have JD : Hid (∀ W, ST26 b w2 y W → ST26 b w2 y W.drew) := Lib.hid fun W h => IN.out _ (low_drewN h.2.2.2.2.2.2.2 1)
    have JA : Hid (∀ W o, ST26 b w2 y W → ST26 b w2 y (W.alloc o)) := Lib.hid fun W o h => IN.out _ (Lows.alloc h.2.2.2.2.2.2.2 o)
    have KR1 : Hid (∀ W, ST26 b w2 y W → Calls Try.prog 9 #[.slice A l.length c] W fun e w' => e = .returned (.bool rb) ∧ ST26 b w2 y w') := Lib.hid fun W h => by
      have k := rightL_any _ l W (PW.out W (low_trans L2.out h.2.2.2.2.2.2.2)) hok (by omega)
      rw [hrb] at k
      exact k.mono fun e w' ⟨h1, h3⟩ => ⟨h1, IN.out _ (low_trans h.2.2.2.2.2.2.2 h3)⟩
    have KR2 : Hid (∀ W, ST26 b w2 y W → Calls Try.prog 10 #[.slice A l.length c] W fun e w' => e = .returned (.bool rb) ∧ ST26 b w2 y w') := Lib.hid fun W h => by
      have k := rrightL_any _ l W (PW.out W (low_trans L2.out h.2.2.2.2.2.2.2)) hok (by omega)
      rw [hrb] at k
      exact k.mono fun e w' ⟨h1, h3⟩ => ⟨h1, IN.out _ (low_trans h.2.2.2.2.2.2.2 h3)⟩
    have KF1 : Hid (∀ W, ST26 b w2 y W → Calls Try.prog 11 #[.slice A l.length c, .agg #[.bool y.e.a.v6, .int .u64 y.e.a.hi, .int .u64 y.e.a.lo, .int .i64 y.e.n]] W fun e w' => e = .returned (.int .i64 fi) ∧ ST26 b w2 y w') := Lib.hid fun W h => by
      have k := find_any _ l y.e W (PW.out W (low_trans L2.out h.2.2.2.2.2.2.2)) hok (by omega)
      rw [hfi] at k
      exact k.mono fun e w' ⟨h1, h3⟩ => ⟨h1, IN.out _ (low_trans h.2.2.2.2.2.2.2 h3)⟩
    have KF2 : Hid (∀ W, ST26 b w2 y W → Calls Try.prog 12 #[.slice A l.length c, .agg #[.bool y.e.a.v6, .int .u64 y.e.a.hi, .int .u64 y.e.a.lo, .int .i64 y.e.n]] W fun e w' => e = .returned (.int .i64 fi) ∧ ST26 b w2 y w') := Lib.hid fun W h => by
      have k := rfindY_any _ l y.e W (PW.out W (low_trans L2.out h.2.2.2.2.2.2.2)) (by omega)
      rw [hfi] at k
      exact k.mono fun e w' ⟨h1, h3⟩ => ⟨h1, IN.out _ (low_trans h.2.2.2.2.2.2.2 h3)⟩
    have KB1 : Hid (∀ W, ST26 b w2 y W → Calls Try.prog 13 #[u1, u2] W fun e w' => e = .returned (.bool true) ∧ ST26 b w2 y w') := Lib.hid fun W h => by
      have k := sameBook_any u1 u2 (addR l y most) W (HU1.out.below h.2.2.2.2.2.2.2) (HU2.out.below h.2.2.2.2.2.2.2) (by have := add_len l y most; omega)
      exact k.mono fun e w' ⟨h1, h3⟩ => ⟨h1, IN.out _ (low_trans h.2.2.2.2.2.2.2 h3)⟩
    have KC1 : Hid (∀ W, ST26 b w2 y W → Calls Try.prog 16 #[.slice A l.length c, .int .i64 most] W fun e w' => e = .returned (.int .i64 (n1 : Nat)) ∧ ST26 b w2 y w') := Lib.hid fun W h => by
      have k := count_any _ l most W (PW.out W (low_trans L2.out h.2.2.2.2.2.2.2)) (by omega)
      rw [hn1] at k
      exact k.mono fun e w' ⟨h1, h3⟩ => ⟨h1, IN.out _ (low_trans h.2.2.2.2.2.2.2 h3)⟩
    have KC2 : Hid (∀ W, ST26 b w2 y W → Calls Try.prog 17 #[.slice A l.length c, .int .i64 most] W fun e w' => e = .returned (.int .i64 (n1 : Nat)) ∧ ST26 b w2 y w') := Lib.hid fun W h => by
      have k := rcount_any _ l most W (PW.out W (low_trans L2.out h.2.2.2.2.2.2.2)) (by omega)
      rw [hn1] at k
      exact k.mono fun e w' ⟨h1, h3⟩ => ⟨h1, IN.out _ (low_trans h.2.2.2.2.2.2.2 h3)⟩
    have KC3 : Hid (∀ W, ST26 b w2 y W → Calls Try.prog 16 #[.slice A l.length c, .int .i64 y.st] W fun e w' => e = .returned (.int .i64 (n2 : Nat)) ∧ ST26 b w2 y w') := Lib.hid fun W h => by
      have k := count_any _ l y.st W (PW.out W (low_trans L2.out h.2.2.2.2.2.2.2)) (by omega)
      rw [hn2] at k
      exact k.mono fun e w' ⟨h1, h3⟩ => ⟨h1, IN.out _ (low_trans h.2.2.2.2.2.2.2 h3)⟩
    have KC4 : Hid (∀ W, ST26 b w2 y W → Calls Try.prog 17 #[.slice A l.length c, .int .i64 y.st] W fun e w' => e = .returned (.int .i64 (n2 : Nat)) ∧ ST26 b w2 y w') := Lib.hid fun W h => by
      have k := rcount_any _ l y.st W (PW.out W (low_trans L2.out h.2.2.2.2.2.2.2)) (by omega)
      rw [hn2] at k
      exact k.mono fun e w' ⟨h1, h3⟩ => ⟨h1, IN.out _ (low_trans h.2.2.2.2.2.2.2 h3)⟩
    have KW : Hid (∀ W, ST26 b w2 y W → Calls Try.prog 6 #[] W fun e w' => e = .returned (.bool true) ∧ ST26 b w2 y w') := Lib.hid fun W h => by
      have k := AW.out W
      exact k.mono fun e w' ⟨h1, h3⟩ => ⟨h1, IN.out _ (low_trans h.2.2.2.2.2.2.2 h3)⟩
    have KS1 : Hid (∀ W, ST26 b w2 y W → Calls Try.prog 14 #[.slice A l.length c, .agg #[.bool y.e.a.v6, .int .u64 y.e.a.hi, .int .u64 y.e.a.lo, .int .i64 y.e.n, .int .i64 y.st, .int .i64 y.f, .int .i64 y.nx]] W fun e w' => ∃ u, e = .returned u ∧ Books w' u (setR l y) ∧ Below W.heap.size W w' ∧ ST26 b w2 y w') := Lib.hid fun W h => by
      exact (setL_any _ l y W (PW.out W (low_trans L2.out h.2.2.2.2.2.2.2)) hok (by omega)).mono fun e w' ⟨u, h1, h2, h3⟩ => ⟨u, h1, h2, h3, IN.out _ (low_trans h.2.2.2.2.2.2.2 h3)⟩
    have KS2 : Hid (∀ W, ST26 b w2 y W → Calls Try.prog 15 #[.slice A l.length c, .agg #[.bool y.e.a.v6, .int .u64 y.e.a.hi, .int .u64 y.e.a.lo, .int .i64 y.e.n, .int .i64 y.st, .int .i64 y.f, .int .i64 y.nx]] W fun e w' => ∃ u, e = .returned u ∧ Books w' u (setR l y) ∧ Below W.heap.size W w' ∧ ST26 b w2 y w') := Lib.hid fun W h => by
      exact (rsetL_any _ l y W (PW.out W (low_trans L2.out h.2.2.2.2.2.2.2)) (by omega)).mono fun e w' ⟨u, h1, h2, h3⟩ => ⟨u, h1, h2, h3, IN.out _ (low_trans h.2.2.2.2.2.2.2 h3)⟩
    have KB2 : Hid (∀ W a b1, ST26 b w2 y W → Books W a (setR l y) → Books W b1 (setR l y) → Calls Try.prog 13 #[a, b1] W fun e w' => e = .returned (.bool true) ∧ ST26 b w2 y w') := Lib.hid fun W a b1 h ha hb => by
      exact (sameBook_any a b1 (setR l y) W ha hb (by rw [set_len]; omega)).mono fun e w' ⟨h1, h3⟩ => ⟨h1, IN.out _ (low_trans h.2.2.2.2.2.2.2 h3)⟩
    obtain ⟨CC, hCC⟩ : ∃ r, codeR l y most = r := ⟨_, rfl⟩
    rw [hCC]
    have zr : (rb == rb) = true := by simp
    have zf : (fi == fi) = true := by simp
    have zc : (CC == CC) = true := by simp
    have hk0 : ST26 b w2 y w2 := IN.out _ (Lows.self _)
    have hkd : ST26 b w2 y w2.drew := JD.out _ hk0
    obtain ⟨t0, t1, t2, t3, t4, t5, t6, t7⟩ := id hk0
    clear IN OB2 HU1 HU2 PW hok hy hrb hfi hn1 hn2 hCC
    go_upto_region 5 with fail
    go_region_held3 (fun w' => w'.cell? ⟨b, 0, none⟩ = some (.bool y.e.a.v6) ∧ w'.cell? ⟨b, 1, none⟩ = some (.int .u64 y.e.a.hi) ∧ w'.cell? ⟨b, 2, none⟩ = some (.int .u64 y.e.a.lo) ∧ w'.cell? ⟨b, 3, none⟩ = some (.int .i64 y.e.n) ∧ w'.cell? ⟨b, 4, none⟩ = some (.int .i64 y.st) ∧ w'.cell? ⟨b, 5, none⟩ = some (.int .i64 y.f) ∧ w'.cell? ⟨b, 6, none⟩ = some (.int .i64 y.nx) ∧ Lows w2 w')
      (first | (with_reducible assumption) | (repeat (first | (with_reducible assumption) | (with_reducible refine JD.out _ ?_) | (with_reducible refine JA.out _ _ ?_))))
      (first
      | (go_at_call 9; (with_reducible refine (KR1.out _ (by with_reducible assumption)).mono ?_); rintro e w9 ⟨rfl, hkw⟩)
      | (go_at_call 10; (with_reducible refine (KR2.out _ (by with_reducible assumption)).mono ?_); rintro e w9 ⟨rfl, hkw⟩)
      | (go_at_call 11; (with_reducible refine (KF1.out _ (by with_reducible assumption)).mono ?_); rintro e w9 ⟨rfl, hkw⟩)
      | (go_at_call 12; (with_reducible refine (KF2.out _ (by with_reducible assumption)).mono ?_); rintro e w9 ⟨rfl, hkw⟩)
      | (go_at_call 13; (with_reducible refine (KB1.out _ (by with_reducible assumption)).mono ?_); rintro e w9 ⟨rfl, hkw⟩)
      | (go_at_call 16; (with_reducible refine (KC1.out _ (by with_reducible assumption)).mono ?_); rintro e w9 ⟨rfl, hkw⟩)
      | (go_at_call 17; (with_reducible refine (KC2.out _ (by with_reducible assumption)).mono ?_); rintro e w9 ⟨rfl, hkw⟩)
      | (go_at_call 16; (with_reducible refine (KC3.out _ (by with_reducible assumption)).mono ?_); rintro e w9 ⟨rfl, hkw⟩)
      | (go_at_call 17; (with_reducible refine (KC4.out _ (by with_reducible assumption)).mono ?_); rintro e w9 ⟨rfl, hkw⟩)
      | (go_at_call 6; (with_reducible refine (KW.out _ (by with_reducible assumption)).mono ?_); rintro e w9 ⟨rfl, hkw⟩)
      | (go_at_call 14; (with_reducible refine (KS1.out _ (by with_reducible assumption)).mono ?_); rintro e w9 ⟨ua, rfl, hUa, hba, hkw⟩; (try have hUb2 := hUb.below hba))
      | (go_at_call 15; (with_reducible refine (KS2.out _ (by with_reducible assumption)).mono ?_); rintro e w9 ⟨ub, rfl, hUb, hbb, hkw⟩; (try have hUa2 := hUa.below hbb))
      | (go_at_call 13; (first | (with_reducible refine (KB2.out _ _ _ (by with_reducible assumption) hUa2 hUb).mono ?_) | (with_reducible refine (KB2.out _ _ _ (by with_reducible assumption) hUa hUb2).mono ?_)); rintro e w9 ⟨rfl, hkw⟩))
    all_goals
      have HL9 := Lib.hid (low_trans L2.out hkw.2.2.2.2.2.2.2)
      go_wp2_with fail
      go_ret
      exact ⟨rfl, HL9.out⟩
namespace bookTells
theorem contract (H : Type) (enc : TypeId × Value → H) (W : World) (base : Nat) (args : Array Value) (ds gs : List (DataW H)) (before : List MemPlace)
    (hval0 : ∀ (j : Nat) t v, Try.f3.params[j]? = some t → args[j]? = some v → Value.okWide Try.prog W .any base t v)
    (hW : DataW.Whole enc Try.prog Try.f3.params.toList Rows.bookTellsSpec.vars false W args.toList ds gs before) (hSh : W.ShapedOpen Try.prog) :
    Calls Try.prog 3 args W fun e W' => ∃ v, e = .returned v ∧ Rows.bookTellsSpec.post enc Try.prog Try.f3 false true false false W args v W' := by
  have hval : ∀ (j : Nat) t v, Try.f3.params[j]? = some t → args[j]? = some v → Value.okWide Try.prog W .any base t v := hval0
  have hW' := hW
  obtain ⟨p, q, hA0, hV, _, _, _⟩ := hW
  have hA : DataW.TrodAll enc Try.prog W 0 (fun _ => true) true Try.f3.params.toList args.toList ds p := hA0
  rw [Try.params3] at hA hval
  obtain ⟨v0, vs0, d0, ds0, p0, q0, hargs, rfl, rfl, h0, r0⟩ := trodAll_cons hA
  obtain ⟨v1, vs1, d1, ds1, p1, q1, rfl, rfl, rfl, h1, r1⟩ := trodAll_cons r0
  obtain ⟨v2, vs2, d2, ds2, p2, q2, rfl, rfl, rfl, h2, r2⟩ := trodAll_cons r1
  obtain ⟨rfl, rfl, rfl⟩ := trodAll_nil r2
  obtain rfl : args = #[v0, v1, v2] := by cases args; simp_all
  obtain ⟨rfl, rfl⟩ := trodVars_none hV
  obtain ⟨l0, t0, n0, s0⟩ := open_book (hval 0 22 v0 rfl rfl) h0
  obtain ⟨a1, z1, rfl⟩ := open_entry (hval 1 29 v1 rfl rfl) h1
  obtain ⟨b2, rfl, rfl, rfl, w2⟩ := open_int Try.underlying3 (hval 2 3 v2 rfl rfl) h2
  clear hA0 hval0
  refine (bookTells_walk W v0 l0 t0 s0 a1 z1 b2 (wf64 w2)).mono fun e W' ⟨he, hg⟩ => ?_
  subst he
  exact ⟨_, rfl, post_law laidOut (by kernel_rfl) (by kernel_rfl) Try.underlying4 rfl hW' rfl rfl rfl hg⟩
set_option maxRecDepth 100000 in
theorem lifted (os : Os) (started : os.Started) (H : Type) (enc : TypeId × Value → H) (F : Stop.Interp) :
    ReturnsInHanded {} Try.checked os 3 .any ((OpenSpec.ofChange Rows.bookTellsSpec).preRow enc Try.prog Try.f3 Rows.bookTellsRow.domain false Rows.bookTellsRow.laid) (((OpenSpec.ofChange Rows.bookTellsSpec).at F).post enc Try.prog Try.f3 false true false false) := by
  refine returnsInHanded_of_row (C := Try.checked) (s := OpenSpec.ofChange Rows.bookTellsSpec) own started (by kernel_rfl) Try.func3
    (witness_laid (enc := enc) (C := Try.checked) (s := OpenSpec.ofChange Rows.bookTellsSpec) (laid := Rows.bookTellsRow.laid) #[.slice none 0 0, .agg #[.bool false, .int .u64 0, .int .u64 0, .int .i64 0, .int .i64 0, .int .i64 0, .int .i64 0], .int .i64 0] (World.shaped_of_ZipB (by kernel_rfl) (by kernel_rfl)) (by kernel_rfl)
      (OpenSpec.preRow_of_cond 8 (x := ([.nil, .agg [.agg [.agg [.lit (.bool false), .lit (.int .u64 0), .lit (.int .u64 0)], .lit (.int .i64 0)], .lit (.int .i64 0), .lit (.int .i64 0), .lit (.int .i64 0)], .lit (.int .i64 0)], [], [])) (by kernel_rfl) (by kernel_rfl) (fun k hk => by cases hk) (by kernel_rfl)
        (by rw [MakeChecks.laidMetH_plain _ _ _ (by kernel_rfl)]; exact laidMet_laidAll _ (by kernel_rfl) (by kernel_rfl)))) ?_
  intro W base args ds gs before hval hW _ hcond _ _ hsh _
  exact contract H enc W base args ds gs before hval hW hsh
theorem over : Rows.bookTellsRow.holds Try.pinned (OpenSpec.ofChange Rows.bookTellsSpec) :=
  OpenClaim.holds_of_cond 3 Try.f3 rfl rfl rfl rfl rfl rfl rfl ⟨rfl, rfl, rfl, rfl, rfl⟩ rfl rfl rfl rfl rfl (by kernel_rfl) Try.func3 (by kernel_rfl)
    (of_decide_eq_true (by kernel_rfl)) (by unfold Func.isWrapper; first | (rw [if_pos (by decide +kernel)]; kernel_rfl) | (rw [if_neg (by decide +kernel)]; exact ⟨rfl, rfl⟩))
    (fun os started H enc _ F => by rw [OpenClaim.pre_eq_preRow]; exact lifted os started H enc F)
/-- ████ THE STATEMENT ████ -/
theorem proved : Rows.BookTellsSaid := over
end bookTells
end Go.Proofs.Ytnflgcpacacnlaa
