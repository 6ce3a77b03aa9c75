/- The third statement of layer 26, proved: a right book stays right, whatever that is right is added and set, and never has more entries than may be; for all lists of entries and all numbers. -/
import Derived.Test.YtnflgcpacacnlaaLaw26
import Derived.Lib.MinMax
namespace Go.Proofs.Ytnflgcpacacnlaa
set_option maxRecDepth 100000
open Go.ChangeShapes Go.WideShapes Go.ChangeAt Go.RowKit
open Ad Ci En Sat Bk Et Bo Go.Deep
set_option linter.unusedVariables false
set_option maxHeartbeats 16000000 in
theorem bookStays_walk (w : World) (v : Value) (l : List Ey) (h : Books w v l) (hok : ∀ x ∈ l, x.ok) (most : Int) (hm : -9223372036854775808 ≤ most ∧ most ≤ 9223372036854775807) :
    Calls Try.prog 5 #[v, .int .i64 most] w fun e w' => e = .returned (.bool true) ∧ Below w.heap.size w w' := by
  have AW := Lib.hid (fun W => awake26_any W)
  have L0 : Hid (Lows w w) := Lib.hid (Lows.self w)
  obtain ⟨A, c, rfl, _, _, hcell⟩ := h
  have HC := Lib.hid hcell
  have HOK := Lib.hid hok
  clear hcell hok hm
  by_cases h60 : 60 < l.length
  · have h60z : (60 : Int) < (l.length : Int) := by omega
    clear HC HOK
    go_enter Try.func5, Try.ntmps5
    go_wp2_with fail
    refine (AW.out _).mono ?_; rintro e9 w9 ⟨rfl, hb9⟩
    go_wp2_with fail
    go_ret
    exact ⟨rfl, low_trans L0.out hb9⟩
  · have h60z : ¬ (60 : Int) < (l.length : Int) := by omega
    obtain ⟨mx, hmxx⟩ : ∃ mx : Int, max most 0 = mx := ⟨_, rfl⟩
    have hmx0 : 0 ≤ mx := by omega
    have HMX : Hid (most ≤ mx) := Lib.hid (by omega)
    go_enter Try.func5, Try.ntmps5
    go_wp2_with fail
    go_loopw [5, 6] (fun vb vi wr => ∃ (i cb : Nat) (Ab : Option Addr) (bl : List Ey), vb = .slice Ab bl.length cb ∧ vi = .int .i64 i ∧ i ≤ l.length ∧ Hid (Books wr (.slice Ab bl.length cb) bl) ∧ Hid (RightL bl) ∧ Hid (∀ x ∈ bl, x.ok) ∧ Hid (bl.length ≤ i) ∧ Hid ((bl.length : Int) ≤ mx) ∧ Hid (Below w.heap.size w wr)) (fun _ vi _ => l.length - (intOf vi).toNat)
    case atStart => exact ⟨0, 0, none, [], rfl, rfl, Nat.zero_le _, Lib.hid (Recs.nil _ _ _), Lib.hid right_nil, Lib.hid (fun _ h => absurd h List.not_mem_nil), Lib.hid (Nat.le_refl _), Lib.hid (by simpa using hmx0), L0⟩
    case round =>
      obtain ⟨i, cb, Ab, bl, rfl, rfl, hi, HB, HR, HO, HLEN, HMO, HL⟩ := hrel
      by_cases hli : i < l.length
      · have hliz : (i : Int) < (l.length : Int) := by omega
        obtain ⟨bb, o, rfl, hb, hcc⟩ := HC.out (by omega)
        obtain ⟨x, hx⟩ : ∃ x, x = l[i]! := ⟨_, rfl⟩
        have hxo : x.ok := by rw [hx, getElem!_pos l i hli]; exact HOK.out _ (List.getElem_mem _)
        have HXO := Lib.hid hxo
        have hbl60 : bl.length ≤ 60 := by have := HLEN.out; omega
        obtain ⟨d, hd⟩ : ∃ d, d = 2 * i := ⟨_, rfl⟩
        have hw2 : IntKind.i64.wrap (2 * (i : Int)) = (d : Int) := by rw [IntKind.wrap_i64]; omega
        clear hd
        by_cases hdl : d < l.length
        · have hdlz : (d : Int) < (l.length : Int) := by omega
          have KA := Lib.hid (addL_any (.slice Ab bl.length cb) bl x most wr HB.out HO.out hxo (by omega))
          have KF := Lib.hid (fun (W : World) (u : Value) (hu : Books W u (insR bl x)) => find_any u (insR bl x) x.e W hu (ins_ok HO.out HXO.out) (by rw [ins_len]; omega))
          have c0 : wr.cell? ⟨bb, o + i * 7, none⟩ = some (.bool x.e.a.v6) := entry_at HL.out hb hcc hli (j := 0) (by rw [← hx]; rfl)
          have c1 : wr.cell? ⟨bb, o + i * 7 + 1, none⟩ = some (.int .u64 x.e.a.hi) := entry_at HL.out hb hcc hli (j := 1) (by rw [← hx]; rfl)
          have c2 : wr.cell? ⟨bb, o + i * 7 + 2, none⟩ = some (.int .u64 x.e.a.lo) := entry_at HL.out hb hcc hli (j := 2) (by rw [← hx]; rfl)
          have c3 : wr.cell? ⟨bb, o + i * 7 + 3, none⟩ = some (.int .i64 x.e.n) := entry_at HL.out hb hcc hli (j := 3) (by rw [← hx]; rfl)
          have c4 : wr.cell? ⟨bb, o + i * 7 + 4, none⟩ = some (.int .i64 x.st) := entry_at HL.out hb hcc hli (j := 4) (by rw [← hx]; rfl)
          have c5 : wr.cell? ⟨bb, o + i * 7 + 5, none⟩ = some (.int .i64 x.f) := entry_at HL.out hb hcc hli (j := 5) (by rw [← hx]; rfl)
          have c6 : wr.cell? ⟨bb, o + i * 7 + 6, none⟩ = some (.int .i64 x.nx) := entry_at HL.out hb hcc hli (j := 6) (by rw [← hx]; rfl)
          have HCX : Hid (∀ W, Lows wr W → W.cell? ⟨bb, o + i * 7, none⟩ = some (.bool x.e.a.v6) ∧ W.cell? ⟨bb, o + i * 7 + 1, none⟩ = some (.int .u64 x.e.a.hi) ∧ W.cell? ⟨bb, o + i * 7 + 2, none⟩ = some (.int .u64 x.e.a.lo) ∧ W.cell? ⟨bb, o + i * 7 + 3, none⟩ = some (.int .i64 x.e.n)) := Lib.hid fun W hW => ⟨entry_at (lowT HL.out hW) hb hcc hli (j := 0) (by rw [← hx]; rfl), entry_at (lowT HL.out hW) hb hcc hli (j := 1) (by rw [← hx]; rfl), entry_at (lowT HL.out hW) hb hcc hli (j := 2) (by rw [← hx]; rfl), entry_at (lowT HL.out hW) hb hcc hli (j := 3) (by rw [← hx]; rfl)⟩
          clear hcc hb hx hxo
          by_cases hcode : codeR bl x most = 0
          · obtain ⟨hr1, hr2, hr3, hr4⟩ := code_zero hcode
            have HRI : Hid (RightL (insR bl x)) := Lib.hid (ins_right HR.out hr1 hr2)
            have HOI : Hid (∀ q ∈ insR bl x, q.ok) := Lib.hid (ins_ok HO.out HXO.out)
            have hil := ins_len bl x
            have hif := ins_find bl x
            have hlm := HMX.out
            have HLI : Hid ((insR bl x).length ≤ i + 1) := Lib.hid (by have := HLEN.out; omega)
            have HMI : Hid (((insR bl x).length : Int) ≤ mx) := Lib.hid (by omega)
            rw [hcode, hr4] at KA
            clear hr1 hr2 hr3 hr4 hcode hlm HB HR HO HLEN HMO
            obtain ⟨fi, hfi⟩ : ∃ fi, findR (insR bl x) x.e = fi := ⟨_, rfl⟩
            rw [hfi] at KF hif
            clear hfi
            obtain ⟨q, hq⟩ : ∃ q, q = insR bl x := ⟨_, rfl⟩
            rw [← hq] at KA KF HRI HOI hil HLI HMI
            clear hq
            have hfn : ¬ fi < 0 := by omega
            have hfd : decide (fi < 0) = false := decide_eq_false hfn
            have hwl : IntKind.i64.wrap ((bl.length : Int) + 1) = (q.length : Int) := by rw [IntKind.wrap_i64]; omega
            have zq : ((q.length : Int) != (q.length : Int)) = false := by simp
            clear hil
            go_wp2_with fail
            refine KA.out.mono ?_; rintro e9 w1 ⟨u, rfl, hU, hb1⟩
            obtain ⟨Au, cu, rfl, _, _, _⟩ := id hU
            have HU := Lib.hid hU
            have L1 := Lib.hid (lowT HL.out hb1)
            have KF1 := Lib.hid (KF.out w1 _ hU)
            obtain ⟨e0, e1, e2, e3⟩ := HCX.out w1 hb1
            clear hU hb1 KA KF HCX HL c0 c1 c2 c3 c4 c5 c6
            go_wp2_with fail
            refine KF1.out.mono ?_; rintro e9 w2 ⟨rfl, hb2⟩
            have HU2 := Lib.hid (HU.out.below hb2)
            have L2 := Lib.hid (low_trans L1.out hb2)
            clear hb2 KF1 HU L1 e0 e1 e2 e3
            have KR : Hid (Calls Try.prog 9 #[.slice Au q.length cu] w2 fun e w' => e = .returned (.bool true) ∧ Below w2.heap.size w2 w') := Lib.hid (by
              have k := rightL_any (.slice Au q.length cu) q w2 HU2.out HOI.out (by have := HLI.out; omega)
              rwa [(rightB_iff _).2 HRI.out] at k)
            have hmx : ¬ mx < (q.length : Int) := by have := HMI.out; omega
            go_wp2_with fail
            refine KR.out.mono ?_; rintro e9 w8 ⟨rfl, hb8⟩
            have HB8 := Lib.hid (HU2.out.below hb8)
            have L8 := Lib.hid (low_trans L2.out hb8)
            clear hb8 KR
            go_wp2_with fail
            go_roundw
            case rel => exact ⟨i + 1, _, _, q, rfl, by go_num, by omega, HB8, HRI, HOI, Lib.hid (by have := HLI.out; omega), HMI, L8⟩
            case measure => simp [intOf]; omega
          · have HCO := Lib.hid hcode
            have hcb : (codeR bl x most == 0) = false := by rw [beq_eq_false_iff_ne]; exact hcode
            obtain ⟨CC, hCC⟩ : ∃ r, codeR bl x most = r := ⟨_, rfl⟩
            rw [hCC] at KA hcb
            clear hcode hCC KF HCX
            go_wp2_with fail
            refine KA.out.mono ?_; rintro e9 w1 ⟨u, rfl, hU, hb1⟩
            have HB1 := Lib.hid (HB.out.below hb1)
            have L1 := Lib.hid (lowT HL.out hb1)
            have HLE : Hid (bl.length ≤ i + 1) := Lib.hid (by have := HLEN.out; omega)
            clear hU hb1 KA HB HL HLEN c0 c1 c2 c3 c4 c5 c6
            have KR : Hid (Calls Try.prog 9 #[.slice Ab bl.length cb] w1 fun e w' => e = .returned (.bool true) ∧ Below w1.heap.size w1 w') := Lib.hid (by
              have k := rightL_any (.slice Ab bl.length cb) bl w1 HB1.out HO.out (by have := HLE.out; omega)
              rwa [(rightB_iff _).2 HR.out] at k)
            have hmx : ¬ mx < (bl.length : Int) := by have := HMO.out; omega
            go_wp2_with fail
            refine KR.out.mono ?_; rintro e9 w8 ⟨rfl, hb8⟩
            have HB8 := Lib.hid (HB1.out.below hb8)
            have L8 := Lib.hid (low_trans L1.out hb8)
            clear hb8 KR
            go_wp2_with fail
            go_roundw
            case rel => exact ⟨i + 1, _, _, bl, rfl, by go_num, by omega, HB8, HR, HO, Lib.hid (by have := HLE.out; omega), HMO, L8⟩
            case measure => simp [intOf]; omega
        · have hdlz : ¬ (d : Int) < (l.length : Int) := by omega
          have KQ := Lib.hid (rrightY_any x hxo wr)
          have KS := Lib.hid (fun (W : World) (hW : Lows wr W) => setL_any (.slice Ab bl.length cb) bl x W (HB.out.below hW) HO.out (by omega))
          have c0 : wr.cell? ⟨bb, o + i * 7, none⟩ = some (.bool x.e.a.v6) := entry_at HL.out hb hcc hli (j := 0) (by rw [← hx]; rfl)
          have c1 : wr.cell? ⟨bb, o + i * 7 + 1, none⟩ = some (.int .u64 x.e.a.hi) := entry_at HL.out hb hcc hli (j := 1) (by rw [← hx]; rfl)
          have c2 : wr.cell? ⟨bb, o + i * 7 + 2, none⟩ = some (.int .u64 x.e.a.lo) := entry_at HL.out hb hcc hli (j := 2) (by rw [← hx]; rfl)
          have c3 : wr.cell? ⟨bb, o + i * 7 + 3, none⟩ = some (.int .i64 x.e.n) := entry_at HL.out hb hcc hli (j := 3) (by rw [← hx]; rfl)
          have c4 : wr.cell? ⟨bb, o + i * 7 + 4, none⟩ = some (.int .i64 x.st) := entry_at HL.out hb hcc hli (j := 4) (by rw [← hx]; rfl)
          have c5 : wr.cell? ⟨bb, o + i * 7 + 5, none⟩ = some (.int .i64 x.f) := entry_at HL.out hb hcc hli (j := 5) (by rw [← hx]; rfl)
          have c6 : wr.cell? ⟨bb, o + i * 7 + 6, none⟩ = some (.int .i64 x.nx) := entry_at HL.out hb hcc hli (j := 6) (by rw [← hx]; rfl)
          have HCX : Hid (∀ W, Lows wr W → W.cell? ⟨bb, o + i * 7, none⟩ = some (.bool x.e.a.v6) ∧ W.cell? ⟨bb, o + i * 7 + 1, none⟩ = some (.int .u64 x.e.a.hi) ∧ W.cell? ⟨bb, o + i * 7 + 2, none⟩ = some (.int .u64 x.e.a.lo) ∧ W.cell? ⟨bb, o + i * 7 + 3, none⟩ = some (.int .i64 x.e.n) ∧ W.cell? ⟨bb, o + i * 7 + 4, none⟩ = some (.int .i64 x.st) ∧ W.cell? ⟨bb, o + i * 7 + 5, none⟩ = some (.int .i64 x.f) ∧ W.cell? ⟨bb, o + i * 7 + 6, none⟩ = some (.int .i64 x.nx)) := Lib.hid fun W hW => ⟨entry_at (lowT HL.out hW) hb hcc hli (j := 0) (by rw [← hx]; rfl), entry_at (lowT HL.out hW) hb hcc hli (j := 1) (by rw [← hx]; rfl), entry_at (lowT HL.out hW) hb hcc hli (j := 2) (by rw [← hx]; rfl), entry_at (lowT HL.out hW) hb hcc hli (j := 3) (by rw [← hx]; rfl), entry_at (lowT HL.out hW) hb hcc hli (j := 4) (by rw [← hx]; rfl), entry_at (lowT HL.out hW) hb hcc hli (j := 5) (by rw [← hx]; rfl), entry_at (lowT HL.out hW) hb hcc hli (j := 6) (by rw [← hx]; rfl)⟩
          clear hcc hb hx hxo
          have HLE : Hid (bl.length ≤ i + 1) := Lib.hid (by have := HLEN.out; omega)
          cases hrx : rightY x with
          | false =>
            rw [hrx] at KQ
            clear hrx KS HCX
            go_wp2_with fail
            refine KQ.out.mono ?_; rintro e9 w1 ⟨rfl, hb1⟩
            have HB1 := Lib.hid (HB.out.below hb1)
            have L1 := Lib.hid (lowT HL.out hb1)
            clear hb1 KQ HB HL HLEN c0 c1 c2 c3 c4 c5 c6
            have KR : Hid (Calls Try.prog 9 #[.slice Ab bl.length cb] w1 fun e w' => e = .returned (.bool true) ∧ Below w1.heap.size w1 w') := Lib.hid (by
              have k := rightL_any (.slice Ab bl.length cb) bl w1 HB1.out HO.out (by have := HLE.out; omega)
              rwa [(rightB_iff _).2 HR.out] at k)
            have hmx : ¬ mx < (bl.length : Int) := by have := HMO.out; omega
            go_wp2_with fail
            refine KR.out.mono ?_; rintro e9 w8 ⟨rfl, hb8⟩
            have HB8 := Lib.hid (HB1.out.below hb8)
            have L8 := Lib.hid (low_trans L1.out hb8)
            clear hb8 KR
            go_wp2_with fail
            go_roundw
            case rel => exact ⟨i + 1, _, _, bl, rfl, by go_num, by omega, HB8, HR, HO, Lib.hid (by have := HLE.out; omega), HMO, L8⟩
            case measure => simp [intOf]; omega
          | true =>
            rw [hrx] at KQ
            have HRS : Hid (RightL (setR bl x)) := Lib.hid (set_right HR.out hrx)
            have HOS : Hid (∀ q ∈ setR bl x, q.ok) := Lib.hid (set_ok HO.out HXO.out)
            have hsl := set_len bl x
            clear hrx
            go_wp2_with fail
            refine KQ.out.mono ?_; rintro e9 w1 ⟨rfl, hb1⟩
            have L1 := Lib.hid (lowT HL.out hb1)
            have KS1 := Lib.hid (KS.out w1 hb1)
            obtain ⟨e0, e1, e2, e3, e4, e5, e6⟩ := HCX.out w1 hb1
            clear hb1 KQ KS HCX HL HLEN HB HR HO c0 c1 c2 c3 c4 c5 c6
            obtain ⟨q, hq⟩ : ∃ q, q = setR bl x := ⟨_, rfl⟩
            rw [← hq] at KS1 HRS HOS hsl
            have HLS : Hid (q.length ≤ i + 1) := Lib.hid (by rw [hsl]; exact HLE.out)
            have HMS : Hid ((q.length : Int) ≤ mx) := Lib.hid (by rw [hsl]; exact HMO.out)
            clear hq hsl HLE HMO
            go_wp2_with fail
            refine KS1.out.mono ?_; rintro e9 w2 ⟨u, rfl, hU, hb2⟩
            obtain ⟨Au, cu, rfl, _, _, _⟩ := id hU
            have HU2 := Lib.hid hU
            have L2 := Lib.hid (low_trans L1.out hb2)
            clear hU hb2 KS1 L1 e0 e1 e2 e3 e4 e5 e6
            have KR : Hid (Calls Try.prog 9 #[.slice Au q.length cu] w2 fun e w' => e = .returned (.bool true) ∧ Below w2.heap.size w2 w') := Lib.hid (by
              have k := rightL_any (.slice Au q.length cu) q w2 HU2.out HOS.out (by have := HLS.out; omega)
              rwa [(rightB_iff _).2 HRS.out] at k)
            have hmx : ¬ mx < (q.length : Int) := by have := HMS.out; omega
            go_wp2_with fail
            refine KR.out.mono ?_; rintro e9 w8 ⟨rfl, hb8⟩
            have HB8 := Lib.hid (HU2.out.below hb8)
            have L8 := Lib.hid (low_trans L2.out hb8)
            clear hb8 KR
            go_wp2_with fail
            go_roundw
            case rel => exact ⟨i + 1, _, _, q, rfl, by go_num, by omega, HB8, HRS, HOS, Lib.hid (by have := HLS.out; omega), HMS, L8⟩
            case measure => simp [intOf]; omega
      · have hliz : ¬ (i : Int) < (l.length : Int) := by omega
        go_wp2_with fail
        refine (AW.out _).mono ?_; rintro e9 w9 ⟨rfl, hb9⟩
        go_wp2_with fail
        go_ret
        exact ⟨rfl, low_trans HL.out hb9⟩
namespace bookStays
theorem contract (H : Type) (enc : TypeId × Value → H) (W : World) (base : Nat) (args : Array Value) (ds gs : List (DataW H)) (before : List MemPlace)
    (hval0 : ∀ (j : Nat) t v, Try.f5.params[j]? = some t → args[j]? = some v → Value.okWide Try.prog W .any base t v)
    (hW : DataW.Whole enc Try.prog Try.f5.params.toList Rows.bookStaysSpec.vars false W args.toList ds gs before) (hSh : W.ShapedOpen Try.prog) :
    Calls Try.prog 5 args W fun e W' => ∃ v, e = .returned v ∧ Rows.bookStaysSpec.post enc Try.prog Try.f5 false true false false W args v W' := by
  have hval : ∀ (j : Nat) t v, Try.f5.params[j]? = some t → args[j]? = some v → Value.okWide Try.prog W .any base t v := hval0
  have hW' := hW
  obtain ⟨p, q, hA0, hV, _, _, _⟩ := hW
  have hA : DataW.TrodAll enc Try.prog W 0 (fun _ => true) true Try.f5.params.toList args.toList ds p := hA0
  rw [Try.params5] at hA hval
  obtain ⟨v0, vs0, d0, ds0, p0, q0, hargs, rfl, rfl, h0, r0⟩ := trodAll_cons hA
  obtain ⟨v1, vs1, d1, ds1, p1, q1, rfl, rfl, rfl, h1, r1⟩ := trodAll_cons r0
  obtain ⟨rfl, rfl, rfl⟩ := trodAll_nil r1
  obtain rfl : args = #[v0, v1] := by cases args; simp_all
  obtain ⟨rfl, rfl⟩ := trodVars_none hV
  obtain ⟨l0, t0, n0, s0⟩ := open_book (hval 0 22 v0 rfl rfl) h0
  obtain ⟨b1, rfl, rfl, rfl, w1⟩ := open_int Try.underlying3 (hval 1 3 v1 rfl rfl) h1
  clear hA0 hval0
  refine (bookStays_walk W v0 l0 t0 s0 b1 (wf64 w1)).mono fun e W' ⟨he, hg⟩ => ?_
  subst he
  exact ⟨_, rfl, post_law laidOut (by kernel_rfl) (by kernel_rfl) Try.underlying4 rfl hW' rfl rfl rfl hg⟩
set_option maxRecDepth 100000 in
theorem lifted (os : Os) (started : os.Started) (H : Type) (enc : TypeId × Value → H) (F : Stop.Interp) :
    ReturnsInHanded {} Try.checked os 5 .any ((OpenSpec.ofChange Rows.bookStaysSpec).preRow enc Try.prog Try.f5 Rows.bookStaysRow.domain false Rows.bookStaysRow.laid) (((OpenSpec.ofChange Rows.bookStaysSpec).at F).post enc Try.prog Try.f5 false true false false) := by
  refine returnsInHanded_of_row (C := Try.checked) (s := OpenSpec.ofChange Rows.bookStaysSpec) own started (by kernel_rfl) Try.func5
    (witness_laid (enc := enc) (C := Try.checked) (s := OpenSpec.ofChange Rows.bookStaysSpec) (laid := Rows.bookStaysRow.laid) #[.slice none 0 0, .int .i64 0] (World.shaped_of_ZipB (by kernel_rfl) (by kernel_rfl)) (by kernel_rfl)
      (OpenSpec.preRow_of_cond 8 (x := ([.nil, .lit (.int .i64 0)], [], [])) (by kernel_rfl) (by kernel_rfl) (fun k hk => by cases hk) (by kernel_rfl)
        (by rw [MakeChecks.laidMetH_plain _ _ _ (by kernel_rfl)]; exact laidMet_laidAll _ (by kernel_rfl) (by kernel_rfl)))) ?_
  intro W base args ds gs before hval hW _ hcond _ _ hsh _
  exact contract H enc W base args ds gs before hval hW hsh
theorem over : Rows.bookStaysRow.holds Try.pinned (OpenSpec.ofChange Rows.bookStaysSpec) :=
  OpenClaim.holds_of_cond 5 Try.f5 rfl rfl rfl rfl rfl rfl rfl ⟨rfl, rfl, rfl, rfl, rfl⟩ rfl rfl rfl rfl rfl (by kernel_rfl) Try.func5 (by kernel_rfl)
    (of_decide_eq_true (by kernel_rfl)) (by unfold Func.isWrapper; first | (rw [if_pos (by decide +kernel)]; kernel_rfl) | (rw [if_neg (by decide +kernel)]; exact ⟨rfl, rfl⟩))
    (fun os started H enc _ F => by rw [OpenClaim.pre_eq_preRow]; exact lifted os started H enc F)
/-- ████ THE STATEMENT ████ -/
theorem proved : Rows.BookStaysSaid := over
end bookStays
end Go.Proofs.Ytnflgcpacacnlaa
