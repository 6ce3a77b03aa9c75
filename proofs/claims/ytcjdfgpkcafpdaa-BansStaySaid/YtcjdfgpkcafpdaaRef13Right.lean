/- The document's Right for layer 13; lists of bans compared. -/
import Derived.Test.YtcjdfgpkcafpdaaRef13
namespace Go.Proofs.Ytcjdfgpkcafpdaa.Ba
set_option maxRecDepth 100000
open Go.ChangeShapes Go.WideShapes Go.ChangeAt Go.RowKit
open Dec Words V4 V6 Ad Ci
set_option linter.unusedVariables false
/-- What is known of a front, each against each. -/
def FarR (l : List Ban) (i : Nat) : Prop := ∀ a (h : a < l.length), a < i → rightB l[a] = true ∧ ∀ c (h2 : c < a), cmpN (l[c]'(by omega)).n l[a].n < 0
theorem farR_all {l : List Ban} (h : FarR l l.length) : rightL l = true := by
  rw [right_iff]
  refine ⟨fun x hx => ?_, sorted_at.2 fun k i hk hi hki => (h i hi hi).2 k hki⟩
  obtain ⟨i, hi, rfl⟩ := List.getElem_of_mem hx
  exact (h i hi hi).1
theorem farR_wrong {l : List Ban} {i : Nat} (hi : i < l.length) (hr : rightB l[i] = false) : rightL l = false := right_not fun h => by
  have := h.1 _ (List.getElem_mem hi)
  rw [hr] at this; cases this
theorem farR_not {l : List Ban} {k i : Nat} (hi : i < l.length) (hk : k < i) (h : ¬ cmpN (l[k]'(by omega)).n l[i].n < 0) : rightL l = false := right_not fun hr => h (sorted_at.1 hr.2 k i (by omega) hi hk)
theorem farR_snoc {l : List Ban} {i : Nat} (h : FarR l i) (hi : i < l.length) (hr : rightB l[i] = true) (hs : ∀ c (h2 : c < i), cmpN (l[c]'(by omega)).n l[i].n < 0) : FarR l (i + 1) := fun a ha hai => by
  rcases Nat.lt_succ_iff_lt_or_eq.1 hai with h2 | rfl
  · exact h a ha h2
  · exact ⟨hr, hs⟩
set_option maxHeartbeats 8000000 in
theorem rright_any (v : Value) (l : List Ban) (w : World) (h : Bans w v l) (hl : l.length ≤ 900000) (hok : ∀ x ∈ l, x.ok) :
    Calls Try.prog 14 #[v] w fun e w' => e = .returned (.bool (rightL l)) ∧ Below w.heap.size w w' := by
  obtain ⟨A, c, rfl, hc, -, hcell⟩ := h
  have HC := Lib.hid hcell
  have HK := Lib.hid hok
  clear hcell hok
  go_enter Try.func14, Try.ntmps14
  go_wp2_with fail
  go_loopw [3, 4] (fun ii _ wr => ∃ i : Nat, i ≤ l.length ∧ ii = .int .i64 i ∧ Hid (FarR l i) ∧ Below w.heap.size w wr) (fun ii _ _ => l.length - (intOf ii).toNat)
  case atStart => exact ⟨0, Nat.zero_le _, rfl, Lib.hid (fun _ _ h => absurd h (Nat.not_lt_zero _)), Below.refl _ _⟩
  case round =>
    obtain ⟨i, hi, rfl, HN, hlow⟩ := hrel
    obtain ⟨W, hW⟩ : ∃ W, W = wr := ⟨_, rfl⟩
    subst hW
    by_cases hlt : i < l.length
    · obtain ⟨b, o, rfl, hb, hcc⟩ := HC.out (by omega)
      obtain ⟨e0, e1, e2, e3, e4⟩ := bans_at (fun i h j u hu => (hlow.cell (p := ⟨b, o + i * 5 + j, none⟩) hb).trans (hcc i h j u hu)) hlt
      have hxo := HK.out _ (List.getElem_mem hlt)
      have HL := Lib.hid hlow
      have HCC := Lib.hid hcc
      have hlti : (i : Int) < (l.length : Int) := by omega
      cases hr : rightB l[i]
      · have KR := Lib.hid (hr ▸ rrightB_any l[i] W hxo)
        have E : Hid (rightL l = false) := Lib.hid (farR_wrong hlt hr)
        generalize l[i] = x at *
        clear hr hxo hcc hlow
        go_wp2_with fail
        refine KR.out.mono ?_
        rintro e w1 ⟨rfl, hb1⟩
        go_wp2_with fail
        go_ret
        exact ⟨ret_b E.out.symm, low_trans HL.out hb1⟩
      · have KR := Lib.hid (hr ▸ rrightB_any l[i] W hxo)
        obtain ⟨x, hx⟩ : ∃ x, x = l[i] := ⟨_, rfl⟩
        have HX := Lib.hid hx
        rw [← hx] at hxo e0 e1 e2 e3 e4 KR
        have HR := Lib.hid hr
        clear hr hx hcc hlow
        go_wp2_with fail
        refine KR.out.mono ?_
        rintro e w1 ⟨rfl, hb1⟩
        have hlow1 := low_trans HL.out hb1
        clear hb1 KR e0 e1 e2 e3 e4
        go_wp2_with fail
        go_loopw [4] (fun kk wr => ∃ k : Nat, k ≤ i ∧ kk = .int .i64 k ∧ Hid (∀ c (h2 : c < k) (h3 : k ≤ i), cmpN (l[c]'(by omega)).n l[i].n < 0) ∧ Below w.heap.size w wr) (fun kk _ => i - (intOf kk).toNat)
        case atStart => exact ⟨0, Nat.zero_le _, rfl, Lib.hid (fun _ h => absurd h (Nat.not_lt_zero _)), hlow1⟩
        case round =>
          obtain ⟨k, hk, rfl, HM, hlow2⟩ := hrel
          by_cases hki : k < i
          · have hcc : ∀ i (h : i < l.length) j u, (encB l[i])[j]? = some u → wr.cell? ⟨b, o + i * 5 + j, none⟩ = some u := fun i h j u hu => (hlow2.cell (p := ⟨b, o + i * 5 + j, none⟩) hb).trans (HCC.out i h j u hu)
            obtain ⟨c0, c1, c2, c3, c4⟩ := bans_at hcc hlt
            obtain ⟨d0, d1, d2, d3, d4⟩ := bans_at hcc (k := k) (by omega)
            have hyo := HK.out _ (List.getElem_mem (show k < l.length by omega))
            have HL2 := Lib.hid hlow2
            have hkl : (k : Int) < (l.length : Int) := by omega
            have hkI : (k : Int) < (i : Int) := by omega
            rw [← HX.out] at c0 c1 c2 c3 c4
            clear hcc hlow2
            by_cases hcmp : cmpN (l[k]'(by omega)).n l[i].n < 0
            · have HM2 : Hid (∀ c (h2 : c < k + 1) (h3 : k + 1 ≤ i), cmpN (l[c]'(by omega)).n l[i].n < 0) := Lib.hid fun c h2 h3 => by
                rcases Nat.lt_succ_iff_lt_or_eq.1 h2 with h4 | rfl
                · exact HM.out c h4 (by omega)
                · exact hcmp
              have hcd : decide (0 ≤ cmpN (l[k]'(by omega)).n x.n) = false := decide_eq_false (by rw [HX.out]; omega)
              clear hcmp
              generalize l[k]'(by omega) = y at hyo d0 d1 d2 d3 d4 hcd
              have KC : Hid (∀ W0, Stays (wr) W0 → Calls Try.prog 26 #[.agg #[.bool y.n.a.v6, .int .u64 y.n.a.hi, .int .u64 y.n.a.lo, .int .i64 y.n.n], .agg #[.bool x.n.a.v6, .int .u64 x.n.a.hi, .int .u64 x.n.a.lo, .int .i64 x.n.n]] W0 fun e w' => e = .returned (.int .i64 (cmpN y.n x.n)) ∧ Stays (wr) w') := Lib.hid (Tr.keep_call fun W0 => rcompareN_any y.n x.n W0 hyo.1 hxo.1)
              go_wp2_with fail
              have hne : Nonempty (Cls (Stays (wr))) := ⟨⟨_, Below.refl _ _⟩⟩
              have f0 : ∀ q : Cls (Stays (wr)), q.w.cell? ⟨b, o + i * 5, none⟩ = some (.bool x.n.a.v6) := fun q => cells_left q.h (c0)
              have f1 : ∀ q : Cls (Stays (wr)), q.w.cell? ⟨b, o + i * 5 + 1, none⟩ = some (.int .u64 x.n.a.hi) := fun q => cells_left q.h (c1)
              have f2 : ∀ q : Cls (Stays (wr)), q.w.cell? ⟨b, o + i * 5 + 2, none⟩ = some (.int .u64 x.n.a.lo) := fun q => cells_left q.h (c2)
              have f3 : ∀ q : Cls (Stays (wr)), q.w.cell? ⟨b, o + i * 5 + 3, none⟩ = some (.int .i64 x.n.n) := fun q => cells_left q.h (c3)
              have f4 : ∀ q : Cls (Stays (wr)), q.w.cell? ⟨b, o + k * 5, none⟩ = some (.bool y.n.a.v6) := fun q => cells_left q.h (d0)
              have f5 : ∀ q : Cls (Stays (wr)), q.w.cell? ⟨b, o + k * 5 + 1, none⟩ = some (.int .u64 y.n.a.hi) := fun q => cells_left q.h (d1)
              have f6 : ∀ q : Cls (Stays (wr)), q.w.cell? ⟨b, o + k * 5 + 2, none⟩ = some (.int .u64 y.n.a.lo) := fun q => cells_left q.h (d2)
              have f7 : ∀ q : Cls (Stays (wr)), q.w.cell? ⟨b, o + k * 5 + 3, none⟩ = some (.int .i64 y.n.n) := fun q => cells_left q.h (d3)
              refine Cls.region (Stays (wr)) (by kernel_rfl) (by kernel_rfl) (low_drewN (Below.refl _ _) 1) ?_
              repeat (go_big_quiet_step (first | fail | (with_reducible exact Cls.call (KC.out _ (Cls.h _)))))
              refine wpQuiet_nil ?_
              intro n9
              have hs9 := n9.h
              generalize n9.w = w9 at hs9 ⊢
              clear hne n9 f0 f1 f2 f3 f4 f5 f6 f7
              clear c0 c1 c2 c3 c4 d0 d1 d2 d3 d4 KC hyo
              go_wp2_with fail
              go_roundw
              case rel => exact ⟨k + 1, by omega, by go_num, HM2, low_trans HL2.out hs9⟩
              case measure => simp [intOf]; omega
            · have E : Hid (rightL l = false) := Lib.hid (farR_not hlt hki hcmp)
              have hcd : decide (0 ≤ cmpN (l[k]'(by omega)).n x.n) = true := decide_eq_true (by rw [HX.out]; omega)
              clear hcmp
              generalize l[k]'(by omega) = y at hyo d0 d1 d2 d3 d4 hcd
              have KC : Hid (∀ W0, Stays (wr) W0 → Calls Try.prog 26 #[.agg #[.bool y.n.a.v6, .int .u64 y.n.a.hi, .int .u64 y.n.a.lo, .int .i64 y.n.n], .agg #[.bool x.n.a.v6, .int .u64 x.n.a.hi, .int .u64 x.n.a.lo, .int .i64 x.n.n]] W0 fun e w' => e = .returned (.int .i64 (cmpN y.n x.n)) ∧ Stays (wr) w') := Lib.hid (Tr.keep_call fun W0 => rcompareN_any y.n x.n W0 hyo.1 hxo.1)
              go_wp2_with fail
              have hne : Nonempty (Cls (Stays (wr))) := ⟨⟨_, Below.refl _ _⟩⟩
              have f0 : ∀ q : Cls (Stays (wr)), q.w.cell? ⟨b, o + i * 5, none⟩ = some (.bool x.n.a.v6) := fun q => cells_left q.h (c0)
              have f1 : ∀ q : Cls (Stays (wr)), q.w.cell? ⟨b, o + i * 5 + 1, none⟩ = some (.int .u64 x.n.a.hi) := fun q => cells_left q.h (c1)
              have f2 : ∀ q : Cls (Stays (wr)), q.w.cell? ⟨b, o + i * 5 + 2, none⟩ = some (.int .u64 x.n.a.lo) := fun q => cells_left q.h (c2)
              have f3 : ∀ q : Cls (Stays (wr)), q.w.cell? ⟨b, o + i * 5 + 3, none⟩ = some (.int .i64 x.n.n) := fun q => cells_left q.h (c3)
              have f4 : ∀ q : Cls (Stays (wr)), q.w.cell? ⟨b, o + k * 5, none⟩ = some (.bool y.n.a.v6) := fun q => cells_left q.h (d0)
              have f5 : ∀ q : Cls (Stays (wr)), q.w.cell? ⟨b, o + k * 5 + 1, none⟩ = some (.int .u64 y.n.a.hi) := fun q => cells_left q.h (d1)
              have f6 : ∀ q : Cls (Stays (wr)), q.w.cell? ⟨b, o + k * 5 + 2, none⟩ = some (.int .u64 y.n.a.lo) := fun q => cells_left q.h (d2)
              have f7 : ∀ q : Cls (Stays (wr)), q.w.cell? ⟨b, o + k * 5 + 3, none⟩ = some (.int .i64 y.n.n) := fun q => cells_left q.h (d3)
              refine Cls.region (Stays (wr)) (by kernel_rfl) (by kernel_rfl) (low_drewN (Below.refl _ _) 1) ?_
              repeat (go_big_quiet_step (first | fail | (with_reducible exact Cls.call (KC.out _ (Cls.h _)))))
              refine wpQuiet_nil ?_
              intro n9
              have hs9 := n9.h
              generalize n9.w = w9 at hs9 ⊢
              clear hne n9 f0 f1 f2 f3 f4 f5 f6 f7
              clear c0 c1 c2 c3 c4 d0 d1 d2 d3 d4 KC hyo
              go_wp2_with fail
              go_ret
              exact ⟨ret_b E.out.symm, low_trans HL2.out hs9⟩
          · obtain rfl : k = i := by omega
            have HN2 : Hid (FarR l (k + 1)) := Lib.hid (farR_snoc HN.out hlt HR.out (fun c h2 => HM.out c h2 (Nat.le_refl _)))
            have HL2 := Lib.hid hlow2
            go_wp2_with fail
            go_roundw
            case rel => exact ⟨k + 1, by omega, by go_num, HN2, HL2.out⟩
            case measure => simp [intOf]; omega
    · have E : Hid (rightL l = true) := Lib.hid (farR_all (by rw [show l.length = i by omega]; exact HN.out))
      have HB := Lib.hid hlow
      have hnlt : ¬ (i : Int) < (l.length : Int) := by omega
      go_wp2_with fail
      go_ret
      exact ⟨ret_b E.out.symm, HB.out⟩
set_option maxHeartbeats 8000000 in
/-- Two values that read as one list are the same. -/
theorem same_bans (u v : Value) (l : List Ban) (w : World) (hu : Bans w u l) (hv : Bans w v l) (hl : l.length ≤ 900000) :
    Calls Try.prog 15 #[u, v] w fun e w' => e = .returned (.bool true) ∧ Below w.heap.size w w' := by
  obtain ⟨A, c, rfl, _, -, hcell⟩ := hu
  obtain ⟨A2, c2, rfl, _, -, hcell2⟩ := hv
  have HC := Lib.hid hcell
  have HC2 := Lib.hid hcell2
  clear hcell hcell2
  go_enter Try.func15, Try.ntmps15
  go_wp2_with fail
  go_loopw [5] (fun ii wr => ∃ k : Nat, k ≤ l.length ∧ ii = .int .i64 k ∧ Below w.heap.size w wr) (fun ii _ => l.length - (intOf ii).toNat)
  case atStart => exact ⟨0, Nat.zero_le _, rfl, Below.refl _ _⟩
  case round =>
    obtain ⟨k, hk, rfl, hlow⟩ := hrel
    have HB := Lib.hid hlow
    by_cases hlt : k < l.length
    · obtain ⟨b, o, rfl, hb, hcc⟩ := HC.out (by omega)
      obtain ⟨b2, o2, rfl, hb2, hcc2⟩ := HC2.out (by omega)
      obtain ⟨c0, c1, c2, c3, c4⟩ := bans_at (fun i h j u hu => (hlow.cell (p := ⟨b, o + i * 5 + j, none⟩) hb).trans (hcc i h j u hu)) hlt
      obtain ⟨d0, d1, d2, d3, d4⟩ := bans_at (fun i h j u hu => (hlow.cell (p := ⟨b2, o2 + i * 5 + j, none⟩) hb2).trans (hcc2 i h j u hu)) hlt
      have EQ := fun W => neqBan l[k] l[k] W
      rw [sameB_self] at EQ
      have hd : decide ((k : Int) < (l.length : Int)) = true := decide_eq_true (by omega)
      have hkl : (k : Int) < (l.length : Int) := by omega
      clear hcc hcc2 hlow
      generalize l[k] = x at *
      go_wp2_with fail
      have hne : Nonempty (Cls (Stays (wr))) := ⟨⟨_, Below.refl _ _⟩⟩
      have f0 : ∀ q : Cls (Stays (wr)), q.w.cell? ⟨b, o + k * 5, none⟩ = some (.bool x.n.a.v6) := fun q => cells_left q.h (c0)
      have f1 : ∀ q : Cls (Stays (wr)), q.w.cell? ⟨b, o + k * 5 + 1, none⟩ = some (.int .u64 x.n.a.hi) := fun q => cells_left q.h (c1)
      have f2 : ∀ q : Cls (Stays (wr)), q.w.cell? ⟨b, o + k * 5 + 2, none⟩ = some (.int .u64 x.n.a.lo) := fun q => cells_left q.h (c2)
      have f3 : ∀ q : Cls (Stays (wr)), q.w.cell? ⟨b, o + k * 5 + 3, none⟩ = some (.int .i64 x.n.n) := fun q => cells_left q.h (c3)
      have f4 : ∀ q : Cls (Stays (wr)), q.w.cell? ⟨b, o + k * 5 + 4, none⟩ = some (.int .i64 x.t) := fun q => cells_left q.h (c4)
      have f5 : ∀ q : Cls (Stays (wr)), q.w.cell? ⟨b2, o2 + k * 5, none⟩ = some (.bool x.n.a.v6) := fun q => cells_left q.h (d0)
      have f6 : ∀ q : Cls (Stays (wr)), q.w.cell? ⟨b2, o2 + k * 5 + 1, none⟩ = some (.int .u64 x.n.a.hi) := fun q => cells_left q.h (d1)
      have f7 : ∀ q : Cls (Stays (wr)), q.w.cell? ⟨b2, o2 + k * 5 + 2, none⟩ = some (.int .u64 x.n.a.lo) := fun q => cells_left q.h (d2)
      have f8 : ∀ q : Cls (Stays (wr)), q.w.cell? ⟨b2, o2 + k * 5 + 3, none⟩ = some (.int .i64 x.n.n) := fun q => cells_left q.h (d3)
      have f9 : ∀ q : Cls (Stays (wr)), q.w.cell? ⟨b2, o2 + k * 5 + 4, none⟩ = some (.int .i64 x.t) := fun q => cells_left q.h (d4)
      refine Cls.region (Stays (wr)) (by kernel_rfl) (by kernel_rfl) (low_drewN (Below.refl _ _) 1) ?_
      repeat (go_big_quiet_step (first | fail))
      refine wpQuiet_nil ?_
      intro n9
      have hs9 := n9.h
      generalize n9.w = w9 at hs9 ⊢
      clear hne n9 f0 f1 f2 f3 f4 f5 f6 f7 f8 f9
      clear c0 c1 c2 c3 c4 d0 d1 d2 d3 d4 EQ
      go_wp2_with fail
      go_roundw
      case rel => exact ⟨k + 1, by omega, by go_num, low_trans HB.out hs9⟩
      case measure => simp [intOf]; omega
    · have hd : decide ((k : Int) < (l.length : Int)) = false := decide_eq_false (by omega)
      have hkl : ¬ (k : Int) < (l.length : Int) := by omega
      go_wp2_with fail
      go_ret
      exact ⟨rfl, HB.out⟩
end Go.Proofs.Ytcjdfgpkcafpdaa.Ba
