/- The second statement of layer 27, proved: whoever flies only where it is free is in no group with another one; for all lists of ends. -/
import Derived.Test.YtbonfmjalgfgaaaLaw27
namespace Go.Proofs.Ytbonfmjalgfgaaa
set_option maxRecDepth 100000
open Go.ChangeShapes Go.WideShapes Go.ChangeAt Go.RowKit
open Ad Ci En Gr Pe Et Ra Bo Sp Go.Deep
set_option linter.unusedVariables false
theorem own_low {B : Nat} {w w1 : World} {v : Value} {l : List Ey} (h : OwnY B w v l) (k : Below w.heap.size w w1) : OwnY B w1 v l :=
  h.kept (row := none) ⟨k.os, k.tape, k.output, k.size, fun i hi _ => k.block i hi⟩ (by cases v.ownBlock <;> simp)
set_option maxHeartbeats 16000000 in
theorem spreadOnce_walk (w : World) (v : Value) (es : List Endp) (h : Bo.Ends w v es) (hoe : ∀ x ∈ es, x.ok) :
    Calls Try.prog 4 #[v] w fun e w' => e = .returned (.bool true) ∧ Below w.heap.size w w' := by
  have AW := Lib.hid (fun W => awake27_any W)
  have L0 : Hid (Below w.heap.size w w) := Lib.hid (Below.refl _ _)
  obtain ⟨A, c, rfl, _, _, hcell⟩ := h
  have HC := Lib.hid hcell
  have HOK := Lib.hid hoe
  clear hcell hoe
  by_cases h60 : 60 < es.length
  · have h60z : (60 : Int) < (es.length : Int) := by omega
    clear HC HOK
    go_enter Try.func4, Try.ntmps4
    go_wp2_with fail
    refine (AW.out _).mono ?_; rintro e9 w9 ⟨rfl, hb9⟩
    go_wp2_with fail
    go_ret
    exact ⟨rfl, low_trans L0.out hb9⟩
  · have h60z : ¬ (60 : Int) < (es.length : Int) := by omega
    go_enter Try.func4, Try.ntmps4
    go_wp2_with fail
    go_loopw [3, 4] (fun vb vi wr => ∃ (i : Nat) (u : Value), u = vb ∧ vi = .int .i64 i ∧ i ≤ es.length ∧ Hid (OwnY w.heap.size wr u (madeF (es.take i))) ∧ Hid (Below w.heap.size w wr)) (fun _ vi _ => es.length - (intOf vi).toNat)
    case atStart => exact ⟨0, _, rfl, rfl, Nat.zero_le _, Lib.hid ⟨rfl, Or.inl ⟨rfl, rfl⟩⟩, L0⟩
    case round =>
      obtain ⟨i, u, rfl, rfl, hi, HB, HL⟩ := hrel
      have HAP : Hid (Apart (madeF (es.take i))) := Lib.hid (made_apart HOK.out i hi)
      have HLN : Hid ((madeF (es.take i)).length ≤ i) := Lib.hid (made_len es i hi)
      by_cases hli : i < es.length
      · have hliz : (i : Int) < (es.length : Int) := by omega
        obtain ⟨bb, o, rfl, hb, hcc⟩ := HC.out (by omega)
        obtain ⟨x, hx⟩ : ∃ x, x = es[i]! := ⟨_, rfl⟩
        have HXO : Hid x.ok := Lib.hid (by rw [hx, getElem!_pos es i hli]; exact HOK.out _ (List.getElem_mem _))
        have HNX := Lib.hid (made_next hli)
        rw [← hx] at HNX
        have HCX : Hid (∀ W, Below w.heap.size w W → ∀ {j : Nat} {q : Value}, (encD x)[j]? = some q → W.cell? ⟨bb, o + i * 4 + j, none⟩ = some q) := Lib.hid fun W hW j q hq => end_at hW hb hcc hli (by rw [← hx]; exact hq)
        have c0 : wr.cell? ⟨bb, o + i * 4, none⟩ = some (.bool x.a.v6) := HCX.out wr HL.out (j := 0) rfl
        have c1 : wr.cell? ⟨bb, o + i * 4 + 1, none⟩ = some (.int .u64 x.a.hi) := HCX.out wr HL.out (j := 1) rfl
        have c2 : wr.cell? ⟨bb, o + i * 4 + 2, none⟩ = some (.int .u64 x.a.lo) := HCX.out wr HL.out (j := 2) rfl
        have KF := Lib.hid (freeN_any (.slice none 0 0) u [] (madeF (es.take i)) x.a wr (Recs.nil _ _ _) (ownY_books HB.out) (by simp) (by have := HLN.out; omega) none_all (apart_ok HAP.out) HXO.out.1)
        clear hx hb hcc
        cases hf : freeR [] (madeF (es.take i)) x.a
        · rw [hf] at KF
          have HE : Hid (madeF (es.take (i + 1)) = madeF (es.take i)) := Lib.hid (by rw [HNX.out]; unfold addF; rw [if_neg (by rw [hf]; simp)])
          clear hf
          go_wp2_with fail
          refine KF.out.mono ?_; rintro e9 w1 ⟨rfl, hb1⟩
          have HB1 : Hid (OwnY w.heap.size w1 u (madeF (es.take (i + 1)))) := Lib.hid (by rw [HE.out]; exact own_low HB.out hb1)
          have L1 := Lib.hid (low_trans HL.out hb1)
          clear hb1 KF HB HL
          go_wp2_with fail
          go_roundw
          case rel => exact ⟨i + 1, _, rfl, by go_num, by omega, HB1, L1⟩
          case measure => simp [intOf]; omega
        · rw [hf] at KF
          have HE : Hid (madeF (es.take (i + 1)) = madeF (es.take i) ++ [⟨x, 2, 0, 0⟩]) := Lib.hid (by rw [HNX.out]; unfold addF; rw [if_pos hf])
          clear hf
          go_wp2_with fail
          refine KF.out.mono ?_; rintro e9 w1 ⟨rfl, hb1⟩
          have HB1 : Hid (OwnY w.heap.size w1 u (madeF (es.take i))) := Lib.hid (own_low HB.out hb1)
          have L1 := Lib.hid (low_trans HL.out hb1)
          obtain ⟨v2, w2, R2, O2, b2⟩ := append_entries (B := w.heap.size) (ys := [⟨x, 2, 0, 0⟩]) (ownY_alloc HB1.out (.cells #[.bool x.a.v6, .int .u64 x.a.hi, .int .u64 x.a.lo, .int .i64 x.n, .int .i64 2, .int .i64 0, .int .i64 0] 36)) (Blk.reads (m := 1) encY_len7 (Blk.new w1 #[.bool x.a.v6, .int .u64 x.a.hi, .int .u64 x.a.lo, .int .i64 x.n, .int .i64 2, .int .i64 0, .int .i64 0] 36) (by rfl) rfl (Nat.le_refl _)) (by have := HLN.out; simp; omega) (by have := L1.out.size; simp; omega)
          have R1 := Lib.hid R2
          have HB2 : Hid (OwnY w.heap.size w2 v2 (madeF (es.take (i + 1)))) := Lib.hid (by rw [HE.out]; exact O2)
          have L2 := Lib.hid ((L1.out.alloc L1.out.size _).trans b2)
          clear hb1 KF HB HL R2 O2 b2 c0 c1 c2
          have c0 : w1.cell? ⟨bb, o + i * 4, none⟩ = some (.bool x.a.v6) := HCX.out w1 L1.out (j := 0) rfl
          have c1 : w1.cell? ⟨bb, o + i * 4 + 1, none⟩ = some (.int .u64 x.a.hi) := HCX.out w1 L1.out (j := 1) rfl
          have c2 : w1.cell? ⟨bb, o + i * 4 + 2, none⟩ = some (.int .u64 x.a.lo) := HCX.out w1 L1.out (j := 2) rfl
          have c3 : w1.cell? ⟨bb, o + i * 4 + 3, none⟩ = some (.int .i64 x.n) := HCX.out w1 L1.out (j := 3) rfl
          go_wp2_with (first
            | (at_builtin; refine wpList_append_run rfl (.tmp 24) (.tmp 30) _ _ rfl rfl _ _ _ _ rfl rfl R1.out ?_)
            | fail)
          go_roundw
          case rel => exact ⟨i + 1, _, rfl, by go_num, by omega, HB2, L2⟩
          case measure => simp [intOf]; omega
      · have hliz : ¬ (i : Int) < (es.length : Int) := by omega
        obtain ⟨B, hB⟩ : ∃ B, B = madeF (es.take i) := ⟨_, rfl⟩
        rw [← hB] at HB HAP HLN
        have HBK := Lib.hid (ownY_books HB.out)
        obtain ⟨A5, c5, rfl, _, _, hcell5⟩ := id HBK.out
        have HC5 := Lib.hid hcell5
        have HB60 : Hid (B.length ≤ 60) := Lib.hid (by have := HLN.out; omega)
        have KT : Hid (∀ W, Below wr.heap.size wr W → Calls Try.prog 7 #[.slice none 0 0, .slice A5 B.length c5] W fun e w' => ∃ A7 c7, e = .returned (.slice A7 B.length c7) ∧ Below W.heap.size W w') := Lib.hid fun W k => by
          refine (takenN_any (.slice none 0 0) _ [] B W (Recs.nil _ _ _) (HBK.out.below k) (by simp) (by have := HB60.out; omega) none_all (apart_ok HAP.out)).mono ?_
          rintro e w' ⟨u, he, hn, hb⟩
          obtain ⟨A7, c7, rfl, _⟩ := hn
          exact ⟨A7, c7, by rw [he, apart_taken HAP.out], hb⟩
        have hB60 : B.length ≤ 1000000 := by have := HB60.out; omega
        clear hB hcell5 HB HC HOK hli hi HLN
        go_wp2_with fail
        obtain ⟨w5, hw5⟩ : ∃ w5, w5 = wr := ⟨_, rfl⟩
        subst hw5
        have HL5 := HL
        clear HL
        go_loopw [5] (fun vi wr => ∃ i : Nat, vi = .int .i64 i ∧ i ≤ B.length ∧ Hid (Lows w5 wr)) (fun vi _ => B.length - (intOf vi).toNat)
        case atStart => exact ⟨0, rfl, Nat.zero_le _, Lib.hid (Lows.self _)⟩
        case round =>
          obtain ⟨i, rfl, hi, HS⟩ := hrel
          by_cases hli : i < B.length
          · have hliz : (i : Int) < (B.length : Int) := by omega
            go_wp2_with fail
            go_loopw [6] (fun vk wr => ∃ k : Nat, vk = .int .i64 k ∧ k ≤ i ∧ Hid (Lows w5 wr)) (fun vk _ => i - (intOf vk).toNat)
            case atStart => exact ⟨0, rfl, Nat.zero_le _, HS⟩
            case round =>
              obtain ⟨k, rfl, hk, HS2⟩ := hrel
              by_cases hki : k < i
              · have hkiz : (k : Int) < (i : Int) := by omega
                have hkl : k < B.length := by omega
                have hklz : (k : Int) < (B.length : Int) := by omega
                obtain ⟨b5, o5, rfl, hb, hcc⟩ := HC5.out (by omega)
                obtain ⟨x, hx⟩ : ∃ x, x = B[i]! := ⟨_, rfl⟩
                obtain ⟨y, hy⟩ : ∃ y, y = B[k]! := ⟨_, rfl⟩
                have hne : Nonempty (Cls (Lows wr)) := ⟨⟨_, Lows.self _⟩⟩
                have hs : sameG x.e.a y.e.a = false := by rw [hx, hy]; exact apart_unlike HAP.out hli hki
                have hxo : x.e.a.ok := by rw [hx, getElem!_pos B i hli]; exact (apart_ok HAP.out _ (List.getElem_mem _)).he.1
                have hyo : y.e.a.ok := by rw [hy, getElem!_pos B k hkl]; exact (apart_ok HAP.out _ (List.getElem_mem _)).he.1
                have KS := Lib.hid fun W => rsameG_any x.e.a y.e.a W hxo hyo
                rw [hs] at KS
                have f0 : ∀ nq : Cls (Lows wr), nq.w.cell? ⟨b5, o5 + i * 7, none⟩ = some (.bool x.e.a.v6) := fun nq => entry_at (low_trans HS2.out nq.h) hb hcc hli (j := 0) (by rw [← hx]; rfl)
                have f1 : ∀ nq : Cls (Lows wr), nq.w.cell? ⟨b5, o5 + i * 7 + 1, none⟩ = some (.int .u64 x.e.a.hi) := fun nq => entry_at (low_trans HS2.out nq.h) hb hcc hli (j := 1) (by rw [← hx]; rfl)
                have f2 : ∀ nq : Cls (Lows wr), nq.w.cell? ⟨b5, o5 + i * 7 + 2, none⟩ = some (.int .u64 x.e.a.lo) := fun nq => entry_at (low_trans HS2.out nq.h) hb hcc hli (j := 2) (by rw [← hx]; rfl)
                have g0 : ∀ nq : Cls (Lows wr), nq.w.cell? ⟨b5, o5 + k * 7, none⟩ = some (.bool y.e.a.v6) := fun nq => entry_at (low_trans HS2.out nq.h) hb hcc hkl (j := 0) (by rw [← hy]; rfl)
                have g1 : ∀ nq : Cls (Lows wr), nq.w.cell? ⟨b5, o5 + k * 7 + 1, none⟩ = some (.int .u64 y.e.a.hi) := fun nq => entry_at (low_trans HS2.out nq.h) hb hcc hkl (j := 1) (by rw [← hy]; rfl)
                have g2 : ∀ nq : Cls (Lows wr), nq.w.cell? ⟨b5, o5 + k * 7 + 2, none⟩ = some (.int .u64 y.e.a.lo) := fun nq => entry_at (low_trans HS2.out nq.h) hb hcc hkl (j := 2) (by rw [← hy]; rfl)
                clear hx hy hcc hb hs hxo hyo
                go_wp2_with fail
                refine Cls.region (Lows wr) (by kernel_rfl) (by kernel_rfl) (low_drewN (Below.refl _ _) 1) ?_
                (try dsimp only [List.append])
                repeat (go_big_quiet_step (first | fail | (with_reducible exact Cls.call ((lows_call KS).out _ (Cls.h _)))))
                refine wpQuiet_nil ?_
                intro n9
                have hk9 := n9.h
                generalize n9.w = w9 at hk9 ⊢
                clear hne n9 f0 f1 f2 g0 g1 g2
                go_wp2_with fail
                go_roundw
                case rel => exact ⟨k + 1, by go_num, by omega, Lib.hid (low_trans HS2.out hk9)⟩
                case measure => simp [intOf]; omega
              · have hkiz : ¬ (k : Int) < (i : Int) := by omega
                go_wp2_with fail
                go_roundw
                case rel => exact ⟨i + 1, by go_num, by omega, HS2⟩
                case measure => simp [intOf]; omega
          · have hliz : ¬ (i : Int) < (B.length : Int) := by omega
            have KT1 := Lib.hid (KT.out _ HS.out)
            have HL6 := Lib.hid (low_trans HL5.out HS.out)
            have zb : ((B.length : Int) == (B.length : Int)) = true := by simp
            go_wp2_with fail
            refine KT1.out.mono ?_; rintro e9 w7 ⟨A7, c7, rfl, hb7⟩
            have L7 := Lib.hid (low_trans HL6.out hb7)
            clear hb7 KT1 KT
            go_wp2_with fail
            refine (AW.out _).mono ?_; rintro e9 w9 ⟨rfl, hb9⟩
            go_wp2_with fail
            go_ret
            exact ⟨rfl, low_trans L7.out hb9⟩
namespace spreadOnce
theorem contract (H : Type) (enc : TypeId × Value → H) (W : World) (base : Nat) (args : Array Value) (ds gs : List (DataW H)) (before : List MemPlace)
    (hval0 : ∀ (j : Nat) t v, Try.f4.params[j]? = some t → args[j]? = some v → Value.okWide Try.prog W .any base t v)
    (hW : DataW.Whole enc Try.prog Try.f4.params.toList Rows.spreadOnceSpec.vars false W args.toList ds gs before) (hSh : W.ShapedOpen Try.prog) :
    Calls Try.prog 4 args W fun e W' => ∃ v, e = .returned v ∧ Rows.spreadOnceSpec.post enc Try.prog Try.f4 false true false false W args v W' := by
  have hval : ∀ (j : Nat) t v, Try.f4.params[j]? = some t → args[j]? = some v → Value.okWide Try.prog W .any base t v := hval0
  have hW' := hW
  obtain ⟨p, q, hA0, hV, _, _, _⟩ := hW
  have hA : DataW.TrodAll enc Try.prog W 0 (fun _ => true) true Try.f4.params.toList args.toList ds p := hA0
  rw [Try.params4] at hA hval
  obtain ⟨v0, vs0, d0, ds0, p0, q0, hargs, rfl, rfl, h0, r0⟩ := trodAll_cons hA
  obtain ⟨rfl, rfl, rfl⟩ := trodAll_nil r0
  obtain rfl : args = #[v0] := by cases args; simp_all
  obtain ⟨rfl, rfl⟩ := trodVars_none hV
  obtain ⟨l0, t0, n0, s0⟩ := open_ends (hval 0 32 v0 rfl rfl) h0
  clear hA0 hval0
  refine (spreadOnce_walk W v0 l0 t0 s0).mono fun e W' ⟨he, hg⟩ => ?_
  subst he
  exact ⟨_, rfl, post_law laidOut (by kernel_rfl) (by kernel_rfl) Try.underlying4 rfl hW' rfl rfl rfl hg⟩
set_option maxRecDepth 100000 in
theorem lifted (os : Os) (started : os.Started) (H : Type) (enc : TypeId × Value → H) (F : Stop.Interp) :
    ReturnsInHanded {} Try.checked os 4 .any ((OpenSpec.ofChange Rows.spreadOnceSpec).preRow enc Try.prog Try.f4 Rows.spreadOnceRow.domain false Rows.spreadOnceRow.laid) (((OpenSpec.ofChange Rows.spreadOnceSpec).at F).post enc Try.prog Try.f4 false true false false) := by
  refine returnsInHanded_of_row (C := Try.checked) (s := OpenSpec.ofChange Rows.spreadOnceSpec) own started (by kernel_rfl) Try.func4
    (witness_laid (enc := enc) (C := Try.checked) (s := OpenSpec.ofChange Rows.spreadOnceSpec) (laid := Rows.spreadOnceRow.laid) #[.slice none 0 0] (World.shaped_of_ZipB (by kernel_rfl) (by kernel_rfl)) (by kernel_rfl)
      (OpenSpec.preRow_of_cond 8 (x := ([.nil], [], [])) (by kernel_rfl) (by kernel_rfl) (fun k hk => by cases hk) (by kernel_rfl)
        (by rw [MakeChecks.laidMetH_plain _ _ _ (by kernel_rfl)]; exact laidMet_laidAll _ (by kernel_rfl) (by kernel_rfl)))) ?_
  intro W base args ds gs before hval hW _ hcond _ _ hsh _
  exact contract H enc W base args ds gs before hval hW hsh
theorem over : Rows.spreadOnceRow.holds Try.pinned (OpenSpec.ofChange Rows.spreadOnceSpec) :=
  OpenClaim.holds_of_cond 4 Try.f4 rfl rfl rfl rfl rfl rfl rfl ⟨rfl, rfl, rfl, rfl, rfl⟩ rfl rfl rfl rfl rfl (by kernel_rfl) Try.func4 (by kernel_rfl)
    (of_decide_eq_true (by kernel_rfl)) (by unfold Func.isWrapper; first | (rw [if_pos (by decide +kernel)]; kernel_rfl) | (rw [if_neg (by decide +kernel)]; exact ⟨rfl, rfl⟩))
    (fun os started H enc _ F => by rw [OpenClaim.pre_eq_preRow]; exact lifted os started H enc F)
/-- ████ THE STATEMENT ████ -/
theorem proved : Rows.SpreadOnceSaid := over
end spreadOnce
end Go.Proofs.Ytbonfmjalgfgaaa
