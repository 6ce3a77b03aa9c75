/- The third statement of layer 13, proved: from a right list a right one comes, never with more bans than may be, and what was added holds; for all acts and numbers. -/
import Derived.Test.YtcjdfgpkcafpdaaLaw13
namespace Go.Proofs.Ytcjdfgpkcafpdaa
set_option maxRecDepth 100000
open Go.ChangeShapes Go.WideShapes Go.ChangeAt Go.RowKit
open Dec Words V4 V6 Ad Ci Ba
set_option linter.unusedVariables false
set_option maxHeartbeats 8000000 in
theorem bansStay_walk (w : World) (v : Value) (la : List Act13) (h : Acts13 w v la) (hok : ∀ x ∈ la, x.ok) (most : Int) (hn : -9223372036854775808 ≤ most ∧ most ≤ 9223372036854775807) :
    Calls Try.prog 5 #[v, .int .i64 most] w fun e w' => e = .returned (.bool true) ∧ Below w.heap.size w w' := by
  obtain ⟨A, c, rfl, hc, -, hcell⟩ := h
  have HC := Lib.hid hcell
  have HK := Lib.hid hok
  have AW := Lib.hid (fun W => awake13_any W)
  clear hcell hok
  by_cases hl : 60 < la.length
  · have hd : (60 : Int) < (la.length : Int) := by omega
    go_enter Try.func5, Try.ntmps5
    go_wp2_with fail
    refine (AW.out _).mono ?_
    rintro e w1 ⟨rfl, hb⟩
    go_wp2_with fail
    go_ret
    exact ⟨rfl, hb⟩
  · have hd : ¬ (60 : Int) < (la.length : Int) := by omega
    go_enter Try.func5, Try.ntmps5
    go_wp2_with fail
    go_loopw [5, 6, 7, 8, 9, 10, 11, 12, 13] (fun sl si _ _ _ _ _ _ _ wr => ∃ (k : Nat) (L : List Ban) (B : Option Addr) (c2 : Nat), k ≤ la.length ∧ si = .int .i64 k ∧ sl = .slice B L.length c2 ∧ Hid (Bans wr (.slice B L.length c2) L) ∧ Right L ∧ (∀ x ∈ L, x.ok) ∧ L.length ≤ k ∧ (L.length : Int) ≤ max most 0 ∧ Below w.heap.size w wr) (fun _ si _ _ _ _ _ _ _ _ => la.length - (intOf si).toNat)
    case atStart => exact ⟨0, [], none, 0, Nat.zero_le _, rfl, rfl, Lib.hid (Recs.nil _ _ _), right_nil, by simp, by simp, by simp; omega, Below.refl _ _⟩
    case round =>
      obtain ⟨k, L, B, c2, hk, rfl, rfl, HB, hR, hO, hLk, hM, hlow⟩ := hrel
      by_cases hlt : k < la.length
      · obtain ⟨b, o, rfl, hb, hcc⟩ := HC.out (by omega)
        obtain ⟨e0, e1, e2, e3, e4, e5⟩ := act13_at (fun i h j u hu => (hlow.cell (p := ⟨b, o + i * 6 + j, none⟩) hb).trans (hcc i h j u hu)) hlt
        have hxo : la[k].b.ok := HK.out _ (List.getElem_mem hlt)
        have hkl : (k : Int) < (la.length : Int) := by omega
        generalize la[k] = x at e0 e1 e2 e3 e4 e5 hxo
        have hL1 : Below w.heap.size w (wr.alloc (.cells #[.int .i64 x.kind, .bool x.b.n.a.v6, .int .u64 x.b.n.a.hi, .int .u64 x.b.n.a.lo, .int .i64 x.b.n.n, .int .i64 x.b.t] 46)) := Below.alloc hlow hlow.size _
        have HL1 := Lib.hid hL1
        have n0 : (wr.alloc (.cells #[.int .i64 x.kind, .bool x.b.n.a.v6, .int .u64 x.b.n.a.hi, .int .u64 x.b.n.a.lo, .int .i64 x.b.n.n, .int .i64 x.b.t] 46)).cell? ⟨wr.heap.size, 0, none⟩ = some (.int .i64 x.kind) := cell_at _ _ _ 0 _ rfl
        have n1 : (wr.alloc (.cells #[.int .i64 x.kind, .bool x.b.n.a.v6, .int .u64 x.b.n.a.hi, .int .u64 x.b.n.a.lo, .int .i64 x.b.n.n, .int .i64 x.b.t] 46)).cell? ⟨wr.heap.size, 1, none⟩ = some (.bool x.b.n.a.v6) := cell_at _ _ _ 1 _ rfl
        have n2 : (wr.alloc (.cells #[.int .i64 x.kind, .bool x.b.n.a.v6, .int .u64 x.b.n.a.hi, .int .u64 x.b.n.a.lo, .int .i64 x.b.n.n, .int .i64 x.b.t] 46)).cell? ⟨wr.heap.size, 2, none⟩ = some (.int .u64 x.b.n.a.hi) := cell_at _ _ _ 2 _ rfl
        have n3 : (wr.alloc (.cells #[.int .i64 x.kind, .bool x.b.n.a.v6, .int .u64 x.b.n.a.hi, .int .u64 x.b.n.a.lo, .int .i64 x.b.n.n, .int .i64 x.b.t] 46)).cell? ⟨wr.heap.size, 3, none⟩ = some (.int .u64 x.b.n.a.lo) := cell_at _ _ _ 3 _ rfl
        have n4 : (wr.alloc (.cells #[.int .i64 x.kind, .bool x.b.n.a.v6, .int .u64 x.b.n.a.hi, .int .u64 x.b.n.a.lo, .int .i64 x.b.n.n, .int .i64 x.b.t] 46)).cell? ⟨wr.heap.size, 4, none⟩ = some (.int .i64 x.b.n.n) := cell_at _ _ _ 4 _ rfl
        have n5 : (wr.alloc (.cells #[.int .i64 x.kind, .bool x.b.n.a.v6, .int .u64 x.b.n.a.hi, .int .u64 x.b.n.a.lo, .int .i64 x.b.n.n, .int .i64 x.b.t] 46)).cell? ⟨wr.heap.size, 5, none⟩ = some (.int .i64 x.b.t) := cell_at _ _ _ 5 _ rfl
        clear hcc hlow hL1
        by_cases hk0 : x.kind = 0
        · have hkb : (x.kind == 0) = true := by rw [beq_iff_eq]; exact hk0
          clear hk0
          have K := Lib.hid (add_any (.slice B L.length c2) L x.b most (wr.alloc (.cells #[.int .i64 x.kind, .bool x.b.n.a.v6, .int .u64 x.b.n.a.hi, .int .u64 x.b.n.a.lo, .int .i64 x.b.n.n, .int .i64 x.b.t] 46)) (HB.out.below ((Below.refl wr.heap.size wr).alloc (Nat.le_refl _) _)) (by omega) hO hxo)
          have hle := addL_len L x.b most
          have hok2 := addL_ok (most := most) hO hxo
          have hr2 := right_add hR x.b most
          have hm2 := add_most (b := x.b) hM
          have hh2 := add_holds (l := L) (b := x.b) (most := most)
          have hrb : (addL L x.b most).2 = 0 → 1 ≤ x.b.t := fun h => by
            have : rightB x.b = true := by
              cases hr : rightB x.b
              · rw [addL_wrong hr] at h; cases h
              · rfl
            obtain ⟨_, h1, _⟩ := (rightB_iff _).1 this
            omega
          generalize hLq : (addL L x.b most).1 = L' at *
          generalize (addL L x.b most).2 = q at *
          clear hLq
          go_wp2_with fail
          refine K.out.mono ?_
          rintro e w9 ⟨u, rfl, hR9, hb9⟩
          have HR9 := Lib.hid hR9
          obtain ⟨B9, c9, rfl, -, -, -⟩ := hR9
          have HL9 := Lib.hid (low_trans HL1.out hb9)
          have m0 : w9.cell? ⟨wr.heap.size, 0, none⟩ = some (.int .i64 x.kind) := cells_left hb9 n0
          have m1 : w9.cell? ⟨wr.heap.size, 1, none⟩ = some (.bool x.b.n.a.v6) := cells_left hb9 n1
          have m2 : w9.cell? ⟨wr.heap.size, 2, none⟩ = some (.int .u64 x.b.n.a.hi) := cells_left hb9 n2
          have m3 : w9.cell? ⟨wr.heap.size, 3, none⟩ = some (.int .u64 x.b.n.a.lo) := cells_left hb9 n3
          have m4 : w9.cell? ⟨wr.heap.size, 4, none⟩ = some (.int .i64 x.b.n.n) := cells_left hb9 n4
          have m5 : w9.cell? ⟨wr.heap.size, 5, none⟩ = some (.int .i64 x.b.t) := cells_left hb9 n5
          clear K
          by_cases hq : q = 0
          · subst hq
            have hR := hr2 rfl
            have hM := hm2 rfl
            have hO := hok2
            have hhold := hh2 rfl
            have hrb1 := hrb rfl
            have KU0 := Lib.hid (fun W h => until_any (.slice B9 L'.length c9) L' x.b.n.a (x.b.t - 1) W h (by omega) hO hxo.1.1)
            have hw : IntKind.i64.wrap (x.b.t - 1) = x.b.t - 1 := by rw [IntKind.wrap_i64]; have h8 := hxo.2; omega
            have hcd : decide (untilL L' x.b.n.a (x.b.t - 1) < x.b.t) = false := decide_eq_false (by omega)
            clear hr2 hm2 hh2 hrb hok2 hhold HB hb9
            generalize untilL L' x.b.n.a (x.b.t - 1) = n at *
            have KU : Hid (∀ W, Stays w9 W → Calls Try.prog 16 #[.slice B9 L'.length c9, .agg #[.bool x.b.n.a.v6, .int .u64 x.b.n.a.hi, .int .u64 x.b.n.a.lo], .int .i64 (x.b.t - 1)] W fun e w' => e = .returned (.int .i64 n) ∧ Stays w9 w') := Lib.hid fun W hW => (KU0.out W (HR9.out.below hW)).mono fun e w' ⟨he, hb⟩ => ⟨he, low_trans hW hb⟩
            clear KU0
            go_wp2_with fail
            have hne : Nonempty (Cls (Stays (w9))) := ⟨⟨_, Below.refl _ _⟩⟩
            have f0 : ∀ q : Cls (Stays (w9)), q.w.cell? ⟨wr.heap.size, 0, none⟩ = some (.int .i64 x.kind) := fun q => cells_left q.h (m0)
            have f1 : ∀ q : Cls (Stays (w9)), q.w.cell? ⟨wr.heap.size, 1, none⟩ = some (.bool x.b.n.a.v6) := fun q => cells_left q.h (m1)
            have f2 : ∀ q : Cls (Stays (w9)), q.w.cell? ⟨wr.heap.size, 2, none⟩ = some (.int .u64 x.b.n.a.hi) := fun q => cells_left q.h (m2)
            have f3 : ∀ q : Cls (Stays (w9)), q.w.cell? ⟨wr.heap.size, 3, none⟩ = some (.int .u64 x.b.n.a.lo) := fun q => cells_left q.h (m3)
            have f4 : ∀ q : Cls (Stays (w9)), q.w.cell? ⟨wr.heap.size, 4, none⟩ = some (.int .i64 x.b.n.n) := fun q => cells_left q.h (m4)
            have f5 : ∀ q : Cls (Stays (w9)), q.w.cell? ⟨wr.heap.size, 5, none⟩ = some (.int .i64 x.b.t) := fun q => cells_left q.h (m5)
            refine Cls.region (Stays (w9)) (by kernel_rfl) (by kernel_rfl) (low_drewN (Below.refl _ _) 1) ?_
            repeat (go_big_quiet_step (first | fail | (with_reducible exact Cls.call (KU.out _ (Cls.h _)))))
            refine wpQuiet_nil ?_
            intro n9
            have hs19 := n9.h
            generalize n9.w = w19 at hs19 ⊢
            clear hne n9 f0 f1 f2 f3 f4 f5
            have HR9' := Lib.hid (HR9.out.below hs19)
            have HL9' := Lib.hid (low_trans HL9.out hs19)
            clear hs19 HR9 HL9 m0 m1 m2 m3 m4 m5
            have R1 := Lib.hid (right_any (.slice B9 L'.length c9) L' w19 HR9'.out (by omega) hO)
            rw [(right_iff L').2 hR] at R1
            have hmx : ¬ (max most 0 < (L'.length : Int)) := by omega
            have HF := Lib.hid (And.intro hR (And.intro hO hM))
            clear hR hO hM
            go_wp2_with fail
            refine R1.out.mono ?_
            rintro e w10 ⟨rfl, hb10⟩
            have HL10 := Lib.hid (low_trans HL9'.out hb10)
            have HR10 := Lib.hid (HR9'.out.below hb10)
            clear hb10 R1
            go_wp2_with fail
            go_roundw
            case rel => exact ⟨k + 1, L', B9, c9, by omega, by go_num, rfl, HR10, HF.out.1, HF.out.2.1, by omega, HF.out.2.2, HL10.out⟩
            case measure => simp [intOf]; omega
          · have hq2 : (q == 0) = false := by rw [beq_eq_false_iff_ne]; exact hq
            have HR8 := Lib.hid (HB.out.below (low_trans ((Below.refl wr.heap.size wr).alloc (Nat.le_refl _) _) hb9))
            clear HR9 hr2 hm2 hh2 hrb hok2 hb9 HB hq m0 m1 m2 m3 m4 m5
            go_wp2_with fail
            have R1 := Lib.hid (right_any (.slice B L.length c2) L w9 HR8.out (by omega) hO)
            rw [(right_iff L).2 hR] at R1
            have hmx : ¬ (max most 0 < (L.length : Int)) := by omega
            have HF := Lib.hid (And.intro hR (And.intro hO hM))
            clear hR hO hM
            go_wp2_with fail
            refine R1.out.mono ?_
            rintro e w10 ⟨rfl, hb10⟩
            have HL10 := Lib.hid (low_trans HL9.out hb10)
            have HR10 := Lib.hid (HR8.out.below hb10)
            clear hb10 R1
            go_wp2_with fail
            go_roundw
            case rel => exact ⟨k + 1, L, B, c2, by omega, by go_num, rfl, HR10, HF.out.1, HF.out.2.1, by omega, HF.out.2.2, HL10.out⟩
            case measure => simp [intOf]; omega
        · have hkb : (x.kind == 0) = false := by rw [beq_eq_false_iff_ne]; exact hk0
          by_cases hk1 : x.kind = 1
          · have hkc : (x.kind == 1) = true := by rw [beq_iff_eq]; exact hk1
            clear hk0 hk1
            have K := Lib.hid (drop_any (.slice B L.length c2) L x.b.n (wr.alloc (.cells #[.int .i64 x.kind, .bool x.b.n.a.v6, .int .u64 x.b.n.a.hi, .int .u64 x.b.n.a.lo, .int .i64 x.b.n.n, .int .i64 x.b.t] 46)) (HB.out.below ((Below.refl wr.heap.size wr).alloc (Nat.le_refl _) _)) (by omega) hO)
            have hle := dropL_len L x.b.n
            have hok2 := dropL_ok (n := x.b.n) hO
            have hr2 := right_drop hR x.b.n
            have hm2 := drop_count (l := L) (n := x.b.n)
            generalize hLq : (dropL L x.b.n).1 = L' at *
            generalize (dropL L x.b.n).2 = q at *
            clear hLq
            go_wp2_with fail
            refine K.out.mono ?_
            rintro e w9 ⟨u, rfl, hR9, hb9⟩
            have HR9 := Lib.hid hR9
            obtain ⟨B9, c9, rfl, -, -, -⟩ := hR9
            have HL9 := Lib.hid (low_trans HL1.out hb9)
            clear K
            by_cases hq : q = 0
            · subst hq
              have hcnt := hm2 rfl
              have hR := hr2
              have hM : (L'.length : Int) ≤ max most 0 := by omega
              have hO := hok2
              have hne : ((L'.length : Int) != (L.length : Int) - 1) = false := by simp; omega
              clear hr2 hm2 hok2 HB hb9 hcnt
              go_wp2_with fail
              have R1 := Lib.hid (right_any (.slice B9 L'.length c9) L' w9 HR9.out (by omega) hO)
              rw [(right_iff L').2 hR] at R1
              have hmx : ¬ (max most 0 < (L'.length : Int)) := by omega
              have HF := Lib.hid (And.intro hR (And.intro hO hM))
              clear hR hO hM
              go_wp2_with fail
              refine R1.out.mono ?_
              rintro e w10 ⟨rfl, hb10⟩
              have HL10 := Lib.hid (low_trans HL9.out hb10)
              have HR10 := Lib.hid (HR9.out.below hb10)
              clear hb10 R1
              go_wp2_with fail
              go_roundw
              case rel => exact ⟨k + 1, L', B9, c9, by omega, by go_num, rfl, HR10, HF.out.1, HF.out.2.1, by omega, HF.out.2.2, HL10.out⟩
              case measure => simp [intOf]; omega
            · have hq2 : (q == 0) = false := by rw [beq_eq_false_iff_ne]; exact hq
              have HR8 := Lib.hid (HB.out.below (low_trans ((Below.refl wr.heap.size wr).alloc (Nat.le_refl _) _) hb9))
              clear HR9 hr2 hm2 hok2 hb9 HB hq
              go_wp2_with fail
              have R1 := Lib.hid (right_any (.slice B L.length c2) L w9 HR8.out (by omega) hO)
              rw [(right_iff L).2 hR] at R1
              have hmx : ¬ (max most 0 < (L.length : Int)) := by omega
              have HF := Lib.hid (And.intro hR (And.intro hO hM))
              clear hR hO hM
              go_wp2_with fail
              refine R1.out.mono ?_
              rintro e w10 ⟨rfl, hb10⟩
              have HL10 := Lib.hid (low_trans HL9.out hb10)
              have HR10 := Lib.hid (HR8.out.below hb10)
              clear hb10 R1
              go_wp2_with fail
              go_roundw
              case rel => exact ⟨k + 1, L, B, c2, by omega, by go_num, rfl, HR10, HF.out.1, HF.out.2.1, by omega, HF.out.2.2, HL10.out⟩
              case measure => simp [intOf]; omega
          · have hkc : (x.kind == 1) = false := by rw [beq_eq_false_iff_ne]; exact hk1
            clear hk0 hk1
            have K := Lib.hid (sweep_any (.slice B L.length c2) L x.b.t (wr.alloc (.cells #[.int .i64 x.kind, .bool x.b.n.a.v6, .int .u64 x.b.n.a.hi, .int .u64 x.b.n.a.lo, .int .i64 x.b.n.n, .int .i64 x.b.t] 46)) (HB.out.below ((Below.refl wr.heap.size wr).alloc (Nat.le_refl _) _)) (by omega) hO)
            have hle := sweep_le L x.b.t
            have hok2 := sweep_ok (P := Ban.ok) hO x.b.t
            have hr2 := right_sweep hR x.b.t
            generalize hLq : sweepL L x.b.t = L' at *
            clear hLq
            go_wp2_with fail
            refine K.out.mono ?_
            rintro e w9 ⟨u, rfl, hR9, hb9⟩
            have HR9 := Lib.hid hR9
            obtain ⟨B9, c9, rfl, -, -, -⟩ := hR9
            have HL9 := Lib.hid (low_trans HL1.out hb9)
            have hR := hr2
            have hM : (L'.length : Int) ≤ max most 0 := by omega
            have hO := hok2
            have hsum : IntKind.i64.wrap ((L'.length : Int) + ((L.length : Int) - (L'.length : Int))) = (L.length : Int) := by rw [IntKind.wrap_i64]; omega
            have hsum2 : (L'.length : Int) + ((L.length : Int) - (L'.length : Int)) = (L.length : Int) := by omega
            have hne : ((L.length : Int) != (L.length : Int)) = false := by simp
            clear K hr2 hok2 HB hb9
            go_wp2_with fail
            have R1 := Lib.hid (right_any (.slice B9 L'.length c9) L' w9 HR9.out (by omega) hO)
            rw [(right_iff L').2 hR] at R1
            have hmx : ¬ (max most 0 < (L'.length : Int)) := by omega
            have HF := Lib.hid (And.intro hR (And.intro hO hM))
            clear hR hO hM
            go_wp2_with fail
            refine R1.out.mono ?_
            rintro e w10 ⟨rfl, hb10⟩
            have HL10 := Lib.hid (low_trans HL9.out hb10)
            have HR10 := Lib.hid (HR9.out.below hb10)
            clear hb10 R1
            go_wp2_with fail
            go_roundw
            case rel => exact ⟨k + 1, L', B9, c9, by omega, by go_num, rfl, HR10, HF.out.1, HF.out.2.1, by omega, HF.out.2.2, HL10.out⟩
            case measure => simp [intOf]; omega
      · have hkl : ¬ (k : Int) < (la.length : Int) := by omega
        have HL := Lib.hid hlow
        clear hlow
        go_wp2_with fail
        refine (AW.out _).mono ?_
        rintro e w1 ⟨rfl, hb⟩
        go_wp2_with fail
        go_ret
        exact ⟨rfl, low_trans HL.out hb⟩
namespace bansStay
theorem contract (H : Type) (enc : TypeId × Value → H) (W : World) (base : Nat) (args : Array Value) (ds gs : List (DataW H)) (before : List MemPlace)
    (hval0 : ∀ (j : Nat) t v, Try.f5.params[j]? = some t → args[j]? = some v → Value.okWide Try.prog W .any base t v)
    (hW : DataW.Whole enc Try.prog Try.f5.params.toList Rows.bansStaySpec.vars false W args.toList ds gs before) (hSh : W.ShapedOpen Try.prog) :
    Calls Try.prog 5 args W fun e W' => ∃ v, e = .returned v ∧ Rows.bansStaySpec.post enc Try.prog Try.f5 false true false false W args v W' := by
  have hval : ∀ (j : Nat) t v, Try.f5.params[j]? = some t → args[j]? = some v → Value.okWide Try.prog W .any base t v := hval0
  have hW' := hW
  obtain ⟨p, q, hA0, hV, _, _, _⟩ := hW
  have hA : DataW.TrodAll enc Try.prog W 0 (fun _ => true) true Try.f5.params.toList args.toList ds p := hA0
  rw [Try.params5] at hA hval
  obtain ⟨v0, vs0, d0, ds0, p0, q0, hargs, rfl, rfl, h0, r0⟩ := trodAll_cons hA
  obtain ⟨v1, vs1, d1, ds1, p1, q1, rfl, rfl, rfl, h1, r1⟩ := trodAll_cons r0
  obtain ⟨rfl, rfl, rfl⟩ := trodAll_nil r1
  obtain rfl : args = #[v0, v1] := by cases args; simp_all
  obtain ⟨rfl, rfl⟩ := trodVars_none hV
  obtain ⟨l0, t0, n0, s0⟩ := open_acts13 (hval 0 44 v0 rfl rfl) h0
  obtain ⟨b1, rfl, rfl, rfl, w1⟩ := open_int Try.underlying3 (hval 1 3 v1 rfl rfl) h1
  clear hA0 hval0
  refine (bansStay_walk W v0 l0 t0 s0 b1 (wf64 w1)).mono fun e W' ⟨he, hg⟩ => ?_
  subst he
  exact ⟨_, rfl, post_law laidOut (by kernel_rfl) (by kernel_rfl) Try.underlying4 rfl hW' rfl rfl rfl hg⟩
set_option maxRecDepth 100000 in
theorem lifted (os : Os) (started : os.Started) (H : Type) (enc : TypeId × Value → H) (F : Stop.Interp) :
    ReturnsInHanded {} Try.checked os 5 .any ((OpenSpec.ofChange Rows.bansStaySpec).preRow enc Try.prog Try.f5 Rows.bansStayRow.domain false Rows.bansStayRow.laid) (((OpenSpec.ofChange Rows.bansStaySpec).at F).post enc Try.prog Try.f5 false true false false) := by
  refine returnsInHanded_of_row (C := Try.checked) (s := OpenSpec.ofChange Rows.bansStaySpec) own started (by kernel_rfl) Try.func5
    (witness_laid (enc := enc) (C := Try.checked) (s := OpenSpec.ofChange Rows.bansStaySpec) (laid := Rows.bansStayRow.laid) #[.slice none 0 0, .int .i64 0] (World.shaped_of_ZipB (by kernel_rfl) (by kernel_rfl)) (by kernel_rfl)
      (OpenSpec.preRow_of_cond 8 (x := ([.nil, .lit (.int .i64 0)], [], [])) (by kernel_rfl) (by kernel_rfl) (fun k hk => by cases hk) (by kernel_rfl)
        (by rw [MakeChecks.laidMetH_plain _ _ _ (by kernel_rfl)]; exact laidMet_laidAll _ (by kernel_rfl) (by kernel_rfl)))) ?_
  intro W base args ds gs before hval hW _ hcond _ _ hsh _
  exact contract H enc W base args ds gs before hval hW hsh
theorem over : Rows.bansStayRow.holds Try.pinned (OpenSpec.ofChange Rows.bansStaySpec) :=
  OpenClaim.holds_of_cond 5 Try.f5 rfl rfl rfl rfl rfl rfl rfl ⟨rfl, rfl, rfl, rfl, rfl⟩ rfl rfl rfl rfl rfl (by kernel_rfl) Try.func5 (by kernel_rfl)
    (of_decide_eq_true (by kernel_rfl)) (by unfold Func.isWrapper; first | (rw [if_pos (by decide +kernel)]; kernel_rfl) | (rw [if_neg (by decide +kernel)]; exact ⟨rfl, rfl⟩))
    (fun os started H enc _ F => by rw [OpenClaim.pre_eq_preRow]; exact lifted os started H enc F)
/-- ████ THE STATEMENT ████ -/
theorem proved : Rows.BansStaySaid := over
end bansStay
end Go.Proofs.Ytcjdfgpkcafpdaa
