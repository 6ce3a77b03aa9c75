/- The statement of layer 28, proved: whoever is picked may be dialled, and waited longest; for all views and ticks. -/
import Derived.Test.YtgnjbbohphoojaaLaw28
import Derived.Test.YtgnjbbohphoojaaRef12
namespace Go.Proofs.Ytgnjbbohphoojaa
set_option maxRecDepth 100000
open Go.ChangeShapes Go.WideShapes Go.ChangeAt Go.RowKit
open Dec Words V4 V6 Ad Ci En Gr Pe Et Ra Bo Sp Hp Di Go.Deep
set_option linter.unusedVariables false
/-- What is known of the entries of an end that are due: found, and the least Next. -/
def Fnd (L : List Ey) (E : Endp) (t : Int) (fd : Bool) (nx : Int) : Prop := (fd = false → ownY L E t = []) ∧ (fd = true → ownY L E t ≠ [] ∧ ∀ y ∈ ownY L E t, nx ≤ y.nx)
section
variable {b : List Ey} {E : Endp} {t nx : Int} {fd : Bool} {k : Nat} {y : Ey}
theorem fnd_skip (h : Fnd (b.take k) E t fd nx) (hk : k < b.length) (hy : b[k] = y) (hq : (sameE y.e E && rdY y t) = false) : Fnd (b.take (k + 1)) E t fd nx := by
  unfold Fnd
  rw [own_snoc hk, hy, hq, if_neg (by simp)]
  exact h
theorem own_yes (hk : k < b.length) (hy : b[k] = y) (hq : (sameE y.e E && rdY y t) = true) : ownY (b.take (k + 1)) E t = ownY (b.take k) E t ++ [y] := by rw [own_snoc hk, hy, if_pos hq]
theorem fnd_new (h : Fnd (b.take k) E t false nx) (hk : k < b.length) (hy : b[k] = y) (hq : (sameE y.e E && rdY y t) = true) : Fnd (b.take (k + 1)) E t true y.nx := by
  unfold Fnd
  rw [own_yes hk hy hq, h.1 rfl]
  refine ⟨fun e => (by cases e), fun _ => ⟨by simp, fun z hz => ?_⟩⟩
  rw [List.nil_append, List.mem_singleton] at hz
  rw [hz]; exact Int.le_refl _
theorem fnd_less (h : Fnd (b.take k) E t true nx) (hk : k < b.length) (hy : b[k] = y) (hq : (sameE y.e E && rdY y t) = true) (hl : y.nx < nx) : Fnd (b.take (k + 1)) E t true y.nx := by
  unfold Fnd
  rw [own_yes hk hy hq]
  refine ⟨fun e => (by cases e), fun _ => ⟨by simp, fun z hz => ?_⟩⟩
  rcases List.mem_append.1 hz with h1 | h1
  · have := (h.2 rfl).2 z h1; omega
  · rw [List.mem_singleton] at h1
    rw [h1]; exact Int.le_refl _
theorem fnd_keep (h : Fnd (b.take k) E t true nx) (hk : k < b.length) (hy : b[k] = y) (hq : (sameE y.e E && rdY y t) = true) (hl : ¬ y.nx < nx) : Fnd (b.take (k + 1)) E t true nx := by
  unfold Fnd
  rw [own_yes hk hy hq]
  refine ⟨fun e => (by cases e), fun _ => ⟨by simp, fun z hz => ?_⟩⟩
  rcases List.mem_append.1 hz with h1 | h1
  · exact (h.2 rfl).2 z h1
  · rw [List.mem_singleton] at h1
    rw [h1]; omega
theorem any_snoc {p : Ey → Bool} (hk : k < b.length) (hy : b[k] = y) : (b.take (k + 1)).any p = ((b.take k).any p || p y) := by
  rw [List.take_succ_eq_append_getElem hk, List.any_append, hy]; simp
theorem fnd_end {l : List Pr} {s : List Ba.Ban} {x : It} (h : Fnd b E t fd nx) (hp : pickR b l s t = some x) (hE : E = x.e) : fd = true ∧ ∀ z ∈ b, mayR b l s z t = true → nx ≤ z.nx := by
  obtain ⟨y, hy, hr, hi⟩ := pick_of hp
  have hin : y ∈ ownY b E t := by
    unfold ownY
    refine List.mem_filter.2 ⟨hy, ?_⟩
    rw [Bool.and_eq_true]
    exact ⟨(sameE_iff _ _).2 (by rw [hE, ← hi]; rfl), hr⟩
  cases fd with
  | false => rw [h.1 rfl] at hin; cases hin
  | true =>
    refine ⟨rfl, fun z hz hm => ?_⟩
    have h1 := (h.2 rfl).2 y hin
    have h2 := pick_least hp hz hm
    have h3 : x.k = y.nx := by rw [← hi]; rfl
    omega
end
theorem ban_at {w : World} {bb o : Nat} {s : List Ba.Ban} {wr : World} (hlow : Below w.heap.size w wr) (hb : bb < w.heap.size) (hcc : ∀ i (h : i < s.length) j u, (encB s[i])[j]? = some u → w.cell? ⟨bb, o + i * 5 + j, none⟩ = some u) {i : Nat} (hi : i < s.length) {z : Ba.Ban} (hz : s[i] = z) {j : Nat} {u : Value} (hu : (encB z)[j]? = some u) : wr.cell? ⟨bb, o + i * 5 + j, none⟩ = some u := by
  rw [← hz] at hu
  exact (hlow.cell (p := ⟨bb, o + i * 5 + j, none⟩) hb).trans (hcc i hi j u hu)
set_option maxHeartbeats 16000000 in
theorem dialSound_walk (w : World) (A1 : Option Addr) (c1 : Nat) (A2 : Option Addr) (c2 : Nat) (A3 : Option Addr) (c3 : Nat) (b : List Ey) (l : List Pr) (s : List Ba.Ban) (hM : Books w (.slice A1 b.length c1) b ∧ Peers w (.slice A2 l.length c2) l ∧ Bans w (.slice A3 s.length c3) s) (ob : ∀ y ∈ b, y.ok) (op : ∀ p ∈ l, p.ok) (os : ∀ x ∈ s, x.ok) (t : Int) (ht : -9223372036854775808 ≤ t ∧ t ≤ 9223372036854775807) :
    Calls Try.prog 3 #[.agg #[.slice A1 b.length c1, .slice A2 l.length c2, .slice A3 s.length c3], .int .i64 t] w fun e w' => e = .returned (.bool true) ∧ Below w.heap.size w w' := by
  have AW := Lib.hid (fun W => awake28_any W)
  have L0 : Hid (Lows w (w.alloc (.cells #[.slice A1 b.length c1, .slice A2 l.length c2, .slice A3 s.length c3] 26))) := Lib.hid (Lows.alloc (Lows.self w) _)
  have OV := Lib.hid (Blk.new w #[.slice A1 b.length c1, .slice A2 l.length c2, .slice A3 s.length c3] 26)
  have KLI := Lib.hid (fun W => light_any A1 c1 A2 c2 A3 c3 b.length l.length s.length W)
  obtain ⟨lt, hlt⟩ : ∃ q, q = (decide (b.length ≤ 30) && decide (l.length ≤ 30) && decide (s.length ≤ 30)) := ⟨_, rfl⟩
  rw [← hlt] at KLI
  cases lt with
  | false =>
    clear hlt hM ob op os
    go_enter Try.func3, Try.ntmps3
    go_wp2_with fail
    refine (KLI.out _).mono ?_; rintro e9 w1 ⟨rfl, hb1⟩
    have L1 := Lib.hid (low_trans L0.out hb1)
    clear hb1 KLI L0 OV
    go_wp2_with fail
    refine (AW.out _).mono ?_; rintro e9 w9 ⟨rfl, hb9⟩
    go_wp2_with fail
    go_ret
    exact ⟨rfl, low_trans L1.out hb9⟩
  | true =>
    have hle : b.length ≤ 30 ∧ l.length ≤ 30 ∧ s.length ≤ 30 := by
      have h := hlt.symm
      simp only [Bool.and_eq_true, decide_eq_true_eq] at h
      exact ⟨h.1.1, h.1.2, h.2⟩
    clear hlt
    have HSe : Hid (∀ W, Lows w W → Seen W A1 c1 A2 c2 A3 c3 b l s) := Lib.hid fun W hW => ⟨hM.1.below hW, hM.2.1.below hW, hM.2.2.below hW, ob, op, os, by omega, by omega, by omega⟩
    have HOB : Hid ((∀ y ∈ b, y.ok) ∧ (∀ p ∈ l, p.ok) ∧ ∀ x ∈ s, x.ok) := Lib.hid ⟨ob, op, os⟩
    obtain ⟨hle1, hle2, hle3⟩ := hle
    clear hM ob op os ht
    have KP := Lib.hid (fun (W : World) (hW : Lows w W) => pick_any A1 c1 A2 c2 A3 c3 b l s t W (HSe.out W hW))
    cases hp : pickR b l s t with
    | none =>
      rw [(pickE_none hp).1, (pickE_none hp).2] at KP
      have KP0 : Hid (∀ (W : World) (hW : Lows w W), Calls Try.prog 6 #[.agg #[.slice A1 b.length c1, .slice A2 l.length c2, .slice A3 s.length c3], .int .i64 t] W fun e w' => e = .returned (.tuple #[.agg #[.bool false, .int .u64 0, .int .u64 0, .int .i64 0], .bool false]) ∧ Below W.heap.size W w') := KP
      clear KP
      have KP := KP0
      clear KP0
      go_enter Try.func3, Try.ntmps3
      go_wp2_with fail
      refine (KLI.out _).mono ?_; rintro e9 w1 ⟨rfl, hb1⟩
      have L1 := Lib.hid (low_trans L0.out hb1)
      have OV1 := Lib.hid (OV.out.on hb1)
      have KP1 := Lib.hid (KP.out w1 L1.out)
      have v0 := OV1.out.cell (j := 0) rfl
      have v1 := OV1.out.cell (j := 1) rfl
      have v2 := OV1.out.cell (j := 2) rfl
      clear hb1 KLI L0 OV KP
      go_wp2_with fail
      refine KP1.out.mono ?_; rintro e9 w2 ⟨rfl, hb2⟩
      have LWa := Lib.hid (Lows.alloc (low_trans L1.out hb2) (.cells #[.bool false, .int .u64 0, .int .u64 0, .int .i64 0] 33))
      have OVa := Lib.hid ((OV1.out.on hb2).alloc (.cells #[.bool false, .int .u64 0, .int .u64 0, .int .i64 0] 33))
      have OEa := Lib.hid (Blk.new w2 #[.bool false, .int .u64 0, .int .u64 0, .int .i64 0] 33)
      clear hb2 KP1 L1 OV1 v0 v1 v2
      go_wp2_with fail
      obtain ⟨w3, hw3⟩ : ∃ x, x = w2.alloc (.cells #[.bool false, .int .u64 0, .int .u64 0, .int .i64 0] 33) := ⟨_, rfl⟩
      obtain ⟨q, hq⟩ : ∃ q, q = w2.heap.size := ⟨_, rfl⟩
      have LW : Hid (Lows w w3) := Lib.hid (by rw [hw3]; exact LWa.out)
      have OV : Hid (Blk w3 w.heap.size 26 [.slice A1 b.length c1, .slice A2 l.length c2, .slice A3 s.length c3]) := Lib.hid (by rw [hw3]; exact OVa.out)
      have OE : Hid (Blk w3 q 33 [.bool false, .int .u64 0, .int .u64 0, .int .i64 0]) := Lib.hid (by rw [hw3, hq]; exact OEa.out)
      rw [← hw3, ← hq]
      clear hw3 hq LWa OVa OEa
      have HSW : Hid (∀ W, Lows w3 W → Seen W A1 c1 A2 c2 A3 c3 b l s) := Lib.hid fun W hW => HSe.out W (low_trans LW.out hW)
      have HC1 : Hid (0 < b.length → ∃ bb o, A1 = some ⟨bb, o, none⟩ ∧ bb < w3.heap.size ∧ ∀ i (h : i < b.length) j u, (encY b[i])[j]? = some u → w3.cell? ⟨bb, o + i * 7 + j, none⟩ = some u) := Lib.hid (by
        obtain ⟨A9, c9, e9, _, _, hcell⟩ := (HSW.out w3 (Lows.self _)).hb
        cases e9
        exact hcell)
      have HC2 : Hid (0 < l.length → ∃ bb o, A2 = some ⟨bb, o, none⟩ ∧ bb < w3.heap.size ∧ ∀ i (h : i < l.length) j u, (encP l[i])[j]? = some u → w3.cell? ⟨bb, o + i * 10 + j, none⟩ = some u) := Lib.hid (by
        obtain ⟨A9, c9, e9, _, _, hcell⟩ := (HSW.out w3 (Lows.self _)).hp
        cases e9
        exact hcell)
      have HC3 : Hid (0 < s.length → ∃ bb o, A3 = some ⟨bb, o, none⟩ ∧ bb < w3.heap.size ∧ ∀ i (h : i < s.length) j u, (encB s[i])[j]? = some u → w3.cell? ⟨bb, o + i * 5 + j, none⟩ = some u) := Lib.hid (by
        obtain ⟨A9, c9, e9, _, _, hcell⟩ := (HSW.out w3 (Lows.self _)).hs
        cases e9
        exact hcell)
      go_loopw [7, 8, 9, 10] (fun vs vf vn vi wr => ∃ i : Nat, vs = .bool false ∧ vf = .bool false ∧ vn = .int .i64 0 ∧ vi = .int .i64 i ∧ i ≤ b.length ∧ Hid (Lows w3 wr)) (fun _ _ _ vi _ => b.length - (intOf vi).toNat)
      case atStart => exact ⟨0, rfl, rfl, rfl, rfl, Nat.zero_le _, Lib.hid (Lows.self _)⟩
      case round =>
        obtain ⟨i, rfl, rfl, rfl, rfl, hi, HL⟩ := hrel
        by_cases hli : i < b.length
        · have hliz : (i : Int) < (b.length : Int) := by omega
          obtain ⟨bb, o, hA, hb, hcc⟩ := HC1.out (by omega)
          subst hA
          obtain ⟨y, hx⟩ : ∃ y, y = b[i]! := ⟨_, rfl⟩
          have hx2 : b[i] = y := by rw [hx, getElem!_pos b i hli]
          have hym : y ∈ b := by rw [← hx2]; exact List.getElem_mem _
          have hyo : y.ok := HOB.out.1 y hym
          have c_0 : wr.cell? ⟨bb, o + i * 7, none⟩ = some (.bool y.e.a.v6) := entry_at HL.out hb hcc hli (j := 0) (by rw [← hx]; rfl)
          have c_1 : wr.cell? ⟨bb, o + i * 7 + 1, none⟩ = some (.int .u64 y.e.a.hi) := entry_at HL.out hb hcc hli (j := 1) (by rw [← hx]; rfl)
          have c_2 : wr.cell? ⟨bb, o + i * 7 + 2, none⟩ = some (.int .u64 y.e.a.lo) := entry_at HL.out hb hcc hli (j := 2) (by rw [← hx]; rfl)
          have c_3 : wr.cell? ⟨bb, o + i * 7 + 3, none⟩ = some (.int .i64 y.e.n) := entry_at HL.out hb hcc hli (j := 3) (by rw [← hx]; rfl)
          have c_4 : wr.cell? ⟨bb, o + i * 7 + 4, none⟩ = some (.int .i64 y.st) := entry_at HL.out hb hcc hli (j := 4) (by rw [← hx]; rfl)
          have c_5 : wr.cell? ⟨bb, o + i * 7 + 5, none⟩ = some (.int .i64 y.f) := entry_at HL.out hb hcc hli (j := 5) (by rw [← hx]; rfl)
          have c_6 : wr.cell? ⟨bb, o + i * 7 + 6, none⟩ = some (.int .i64 y.nx) := entry_at HL.out hb hcc hli (j := 6) (by rw [← hx]; rfl)
          have HB := Lib.hid (Blk.new wr #[.bool y.e.a.v6, .int .u64 y.e.a.hi, .int .u64 y.e.a.lo, .int .i64 y.e.n, .int .i64 y.st, .int .i64 y.f, .int .i64 y.nx] 37)
          have HL2 := Lib.hid (Lows.alloc HL.out (.cells #[.bool y.e.a.v6, .int .u64 y.e.a.hi, .int .u64 y.e.a.lo, .int .i64 y.e.n, .int .i64 y.st, .int .i64 y.f, .int .i64 y.nx] 37))
          have o1 := OV.out.on HL.out
          have o2 := OV.out.on HL2.out
          have v0 := o1.cell (j := 0) rfl
          have v1 := o1.cell (j := 1) rfl
          have v2 := o1.cell (j := 2) rfl
          have u0 := o2.cell (j := 0) rfl
          have u1 := o2.cell (j := 1) rfl
          have u2 := o2.cell (j := 2) rfl
          clear o1 o2
          have KM := Lib.hid (may_any _ _ _ _ _ _ b l s y t _ (HSW.out _ HL2.out) hyo)
          rw [pick_none hp hym] at KM
          clear hx hx2 hym hyo hb hcc
          go_wp2_with fail
          refine KM.out.mono ?_; rintro e9 w4 ⟨rfl, hb4⟩
          have L4 := Lib.hid (low_trans HL2.out hb4)
          clear hb4 KM HB HL HL2 c_0 c_1 c_2 c_3 c_4 c_5 c_6 v0 v1 v2 u0 u1 u2
          go_wp2_with fail
          go_roundw
          case rel => exact ⟨i + 1, rfl, rfl, rfl, by go_num, by omega, L4⟩
          case measure => simp [intOf]; omega
        · have hliz : ¬ (i : Int) < (b.length : Int) := by omega
          have o1 := OV.out.on HL.out
          have o2 := OE.out.on HL.out
          have v0 := o1.cell (j := 0) rfl
          have v1 := o1.cell (j := 1) rfl
          have v2 := o1.cell (j := 2) rfl
          have e0 := o2.cell (j := 0) rfl
          have e1 := o2.cell (j := 1) rfl
          have e2 := o2.cell (j := 2) rfl
          have e3 := o2.cell (j := 3) rfl
          have NQ : ∀ W : World, (binOp .neq 33 (.agg #[.bool false, .int .u64 0, .int .u64 0, .int .i64 0]) (.agg #[.bool false, .int .u64 0, .int .u64 0, .int .i64 0])).run Try.prog W = .ok (.bool false) W := fun W => by have := neqEnd zeroE zeroE W; rw [same_selfE] at this; exact this
          clear o1 o2 hi
          go_wp2_with fail
          clear hli hliz NQ
          go_loopw [12] (fun vi wr => vi = .int .i64 0 ∧ Hid (Lows w3 wr)) (fun _ _ => 0)
          case atStart => exact ⟨rfl, HL⟩
          case round =>
            clear HL v0 v1 v2 e0 e1 e2 e3
            obtain ⟨rfl, HL⟩ := hrel
            have o1 := OV.out.on HL.out
            have v0 := o1.cell (j := 0) rfl
            have v1 := o1.cell (j := 1) rfl
            have v2 := o1.cell (j := 2) rfl
            clear o1
            by_cases h0 : 0 < b.length
            · have h0z : (0 : Int) < (b.length : Int) := by omega
              go_wp2_with fail
              clear h0 h0z
              go_loopw [14] (fun vi wr => vi = .int .i64 0 ∧ Hid (Lows w3 wr)) (fun _ _ => 0)
              case atStart => exact ⟨rfl, HL⟩
              case round =>
                clear HL v0 v1 v2
                obtain ⟨rfl, HL⟩ := hrel
                have o1 := OV.out.on HL.out
                have v0 := o1.cell (j := 0) rfl
                have v1 := o1.cell (j := 1) rfl
                have v2 := o1.cell (j := 2) rfl
                clear o1
                by_cases h0 : 0 < s.length
                · have h0z : (0 : Int) < (s.length : Int) := by omega
                  go_wp2_with fail
                  clear h0 h0z
                  go_loopw [15] (fun vi wr => vi = .int .i64 0 ∧ Hid (Lows w3 wr)) (fun _ _ => 0)
                  case atStart => exact ⟨rfl, HL⟩
                  case round =>
                    clear HL v0 v1 v2
                    obtain ⟨rfl, HL⟩ := hrel
                    have o1 := OV.out.on HL.out
                    have v0 := o1.cell (j := 0) rfl
                    have v1 := o1.cell (j := 1) rfl
                    have v2 := o1.cell (j := 2) rfl
                    clear o1
                    by_cases h0 : 0 < l.length
                    · have h0z : (0 : Int) < (l.length : Int) := by omega
                      go_wp2_with fail
                      clear h0 h0z
                      refine (AW.out _).mono ?_; rintro e9 w9 ⟨rfl, hb9⟩
                      go_wp2_with fail
                      go_ret
                      exact ⟨rfl, low_trans LW.out (low_trans HL.out hb9)⟩
                    · have h0z : ¬ (0 : Int) < (l.length : Int) := by omega
                      go_wp2_with fail
                      clear h0 h0z
                      refine (AW.out _).mono ?_; rintro e9 w9 ⟨rfl, hb9⟩
                      go_wp2_with fail
                      go_ret
                      exact ⟨rfl, low_trans LW.out (low_trans HL.out hb9)⟩
                · have h0z : ¬ (0 : Int) < (s.length : Int) := by omega
                  go_wp2_with fail
                  clear h0 h0z
                  go_loopw [15] (fun vi wr => vi = .int .i64 0 ∧ Hid (Lows w3 wr)) (fun _ _ => 0)
                  case atStart => exact ⟨rfl, HL⟩
                  case round =>
                    clear HL v0 v1 v2
                    obtain ⟨rfl, HL⟩ := hrel
                    have o1 := OV.out.on HL.out
                    have v0 := o1.cell (j := 0) rfl
                    have v1 := o1.cell (j := 1) rfl
                    have v2 := o1.cell (j := 2) rfl
                    clear o1
                    by_cases h0 : 0 < l.length
                    · have h0z : (0 : Int) < (l.length : Int) := by omega
                      go_wp2_with fail
                      clear h0 h0z
                      refine (AW.out _).mono ?_; rintro e9 w9 ⟨rfl, hb9⟩
                      go_wp2_with fail
                      go_ret
                      exact ⟨rfl, low_trans LW.out (low_trans HL.out hb9)⟩
                    · have h0z : ¬ (0 : Int) < (l.length : Int) := by omega
                      go_wp2_with fail
                      clear h0 h0z
                      refine (AW.out _).mono ?_; rintro e9 w9 ⟨rfl, hb9⟩
                      go_wp2_with fail
                      go_ret
                      exact ⟨rfl, low_trans LW.out (low_trans HL.out hb9)⟩
            · have h0z : ¬ (0 : Int) < (b.length : Int) := by omega
              go_wp2_with fail
              clear h0 h0z
              go_loopw [14] (fun vi wr => vi = .int .i64 0 ∧ Hid (Lows w3 wr)) (fun _ _ => 0)
              case atStart => exact ⟨rfl, HL⟩
              case round =>
                clear HL v0 v1 v2
                obtain ⟨rfl, HL⟩ := hrel
                have o1 := OV.out.on HL.out
                have v0 := o1.cell (j := 0) rfl
                have v1 := o1.cell (j := 1) rfl
                have v2 := o1.cell (j := 2) rfl
                clear o1
                by_cases h0 : 0 < s.length
                · have h0z : (0 : Int) < (s.length : Int) := by omega
                  go_wp2_with fail
                  clear h0 h0z
                  go_loopw [15] (fun vi wr => vi = .int .i64 0 ∧ Hid (Lows w3 wr)) (fun _ _ => 0)
                  case atStart => exact ⟨rfl, HL⟩
                  case round =>
                    clear HL v0 v1 v2
                    obtain ⟨rfl, HL⟩ := hrel
                    have o1 := OV.out.on HL.out
                    have v0 := o1.cell (j := 0) rfl
                    have v1 := o1.cell (j := 1) rfl
                    have v2 := o1.cell (j := 2) rfl
                    clear o1
                    by_cases h0 : 0 < l.length
                    · have h0z : (0 : Int) < (l.length : Int) := by omega
                      go_wp2_with fail
                      clear h0 h0z
                      refine (AW.out _).mono ?_; rintro e9 w9 ⟨rfl, hb9⟩
                      go_wp2_with fail
                      go_ret
                      exact ⟨rfl, low_trans LW.out (low_trans HL.out hb9)⟩
                    · have h0z : ¬ (0 : Int) < (l.length : Int) := by omega
                      go_wp2_with fail
                      clear h0 h0z
                      refine (AW.out _).mono ?_; rintro e9 w9 ⟨rfl, hb9⟩
                      go_wp2_with fail
                      go_ret
                      exact ⟨rfl, low_trans LW.out (low_trans HL.out hb9)⟩
                · have h0z : ¬ (0 : Int) < (s.length : Int) := by omega
                  go_wp2_with fail
                  clear h0 h0z
                  go_loopw [15] (fun vi wr => vi = .int .i64 0 ∧ Hid (Lows w3 wr)) (fun _ _ => 0)
                  case atStart => exact ⟨rfl, HL⟩
                  case round =>
                    clear HL v0 v1 v2
                    obtain ⟨rfl, HL⟩ := hrel
                    have o1 := OV.out.on HL.out
                    have v0 := o1.cell (j := 0) rfl
                    have v1 := o1.cell (j := 1) rfl
                    have v2 := o1.cell (j := 2) rfl
                    clear o1
                    by_cases h0 : 0 < l.length
                    · have h0z : (0 : Int) < (l.length : Int) := by omega
                      go_wp2_with fail
                      clear h0 h0z
                      refine (AW.out _).mono ?_; rintro e9 w9 ⟨rfl, hb9⟩
                      go_wp2_with fail
                      go_ret
                      exact ⟨rfl, low_trans LW.out (low_trans HL.out hb9)⟩
                    · have h0z : ¬ (0 : Int) < (l.length : Int) := by omega
                      go_wp2_with fail
                      clear h0 h0z
                      refine (AW.out _).mono ?_; rintro e9 w9 ⟨rfl, hb9⟩
                      go_wp2_with fail
                      go_ret
                      exact ⟨rfl, low_trans LW.out (low_trans HL.out hb9)⟩
    | some x =>
      rw [(pickE_some hp).1, (pickE_some hp).2] at KP
      obtain ⟨E, hE⟩ : ∃ E, E = x.e := ⟨_, rfl⟩
      rw [← hE] at KP
      have HP := Lib.hid hp
      have HO : Hid (opR b l s E t = true) := Lib.hid (by rw [hE]; exact pick_open hp)
      have HEO : Hid E.ok := Lib.hid (by obtain ⟨y, hy, _, e⟩ := pick_may hp; rw [hE, ← e]; exact (HOB.out.1 y hy).he)
      have HE := Lib.hid hE
      clear hp hE
      go_enter Try.func3, Try.ntmps3
      go_wp2_with fail
      refine (KLI.out _).mono ?_; rintro e9 w1 ⟨rfl, hb1⟩
      have L1 := Lib.hid (low_trans L0.out hb1)
      have OV1 := Lib.hid (OV.out.on hb1)
      have KP1 := Lib.hid (KP.out w1 L1.out)
      have v0 := OV1.out.cell (j := 0) rfl
      have v1 := OV1.out.cell (j := 1) rfl
      have v2 := OV1.out.cell (j := 2) rfl
      clear hb1 KLI L0 OV KP
      go_wp2_with fail
      refine KP1.out.mono ?_; rintro e9 w2 ⟨rfl, hb2⟩
      have LWa := Lib.hid (Lows.alloc (low_trans L1.out hb2) (.cells #[.bool E.a.v6, .int .u64 E.a.hi, .int .u64 E.a.lo, .int .i64 E.n] 33))
      have OVa := Lib.hid ((OV1.out.on hb2).alloc (.cells #[.bool E.a.v6, .int .u64 E.a.hi, .int .u64 E.a.lo, .int .i64 E.n] 33))
      have OEa := Lib.hid (Blk.new w2 #[.bool E.a.v6, .int .u64 E.a.hi, .int .u64 E.a.lo, .int .i64 E.n] 33)
      clear hb2 KP1 L1 OV1 v0 v1 v2
      go_wp2_with fail
      obtain ⟨w3, hw3⟩ : ∃ x, x = w2.alloc (.cells #[.bool E.a.v6, .int .u64 E.a.hi, .int .u64 E.a.lo, .int .i64 E.n] 33) := ⟨_, rfl⟩
      obtain ⟨q, hq⟩ : ∃ q, q = w2.heap.size := ⟨_, rfl⟩
      have LW : Hid (Lows w w3) := Lib.hid (by rw [hw3]; exact LWa.out)
      have OV : Hid (Blk w3 w.heap.size 26 [.slice A1 b.length c1, .slice A2 l.length c2, .slice A3 s.length c3]) := Lib.hid (by rw [hw3]; exact OVa.out)
      have OE : Hid (Blk w3 q 33 [.bool E.a.v6, .int .u64 E.a.hi, .int .u64 E.a.lo, .int .i64 E.n]) := Lib.hid (by rw [hw3, hq]; exact OEa.out)
      rw [← hw3, ← hq]
      clear hw3 hq LWa OVa OEa
      have HSW : Hid (∀ W, Lows w3 W → Seen W A1 c1 A2 c2 A3 c3 b l s) := Lib.hid fun W hW => HSe.out W (low_trans LW.out hW)
      have HC1 : Hid (0 < b.length → ∃ bb o, A1 = some ⟨bb, o, none⟩ ∧ bb < w3.heap.size ∧ ∀ i (h : i < b.length) j u, (encY b[i])[j]? = some u → w3.cell? ⟨bb, o + i * 7 + j, none⟩ = some u) := Lib.hid (by
        obtain ⟨A9, c9, e9, _, _, hcell⟩ := (HSW.out w3 (Lows.self _)).hb
        cases e9
        exact hcell)
      have HC2 : Hid (0 < l.length → ∃ bb o, A2 = some ⟨bb, o, none⟩ ∧ bb < w3.heap.size ∧ ∀ i (h : i < l.length) j u, (encP l[i])[j]? = some u → w3.cell? ⟨bb, o + i * 10 + j, none⟩ = some u) := Lib.hid (by
        obtain ⟨A9, c9, e9, _, _, hcell⟩ := (HSW.out w3 (Lows.self _)).hp
        cases e9
        exact hcell)
      have HC3 : Hid (0 < s.length → ∃ bb o, A3 = some ⟨bb, o, none⟩ ∧ bb < w3.heap.size ∧ ∀ i (h : i < s.length) j u, (encB s[i])[j]? = some u → w3.cell? ⟨bb, o + i * 5 + j, none⟩ = some u) := Lib.hid (by
        obtain ⟨A9, c9, e9, _, _, hcell⟩ := (HSW.out w3 (Lows.self _)).hs
        cases e9
        exact hcell)
      go_loopw [7, 8, 9, 10] (fun vs vf vn vi wr => ∃ (i : Nat) (sm fd : Bool) (nx : Int), vs = .bool sm ∧ vf = .bool fd ∧ vn = .int .i64 nx ∧ vi = .int .i64 i ∧ i ≤ b.length ∧ Hid (sm = (b.take i).any fun y => mayR b l s y t) ∧ Hid (Fnd (b.take i) E t fd nx) ∧ Hid (Lows w3 wr)) (fun _ _ _ vi _ => b.length - (intOf vi).toNat)
      case atStart => exact ⟨0, false, false, 0, rfl, rfl, rfl, rfl, Nat.zero_le _, Lib.hid (by rw [List.take_zero]; rfl), Lib.hid ⟨fun _ => by rw [List.take_zero]; rfl, fun e => by cases e⟩, Lib.hid (Lows.self _)⟩
      case round =>
        obtain ⟨i, sm, fd, nx, rfl, rfl, rfl, rfl, hi, HA, HF, HL⟩ := hrel
        by_cases hli : i < b.length
        · have hliz : (i : Int) < (b.length : Int) := by omega
          obtain ⟨bb, o, hA, hb, hcc⟩ := HC1.out (by omega)
          subst hA
          obtain ⟨y, hx⟩ : ∃ y, y = b[i]! := ⟨_, rfl⟩
          have hx2 : b[i] = y := by rw [hx, getElem!_pos b i hli]
          have hym : y ∈ b := by rw [← hx2]; exact List.getElem_mem _
          have hyo : y.ok := HOB.out.1 y hym
          have c_0 : wr.cell? ⟨bb, o + i * 7, none⟩ = some (.bool y.e.a.v6) := entry_at HL.out hb hcc hli (j := 0) (by rw [← hx]; rfl)
          have c_1 : wr.cell? ⟨bb, o + i * 7 + 1, none⟩ = some (.int .u64 y.e.a.hi) := entry_at HL.out hb hcc hli (j := 1) (by rw [← hx]; rfl)
          have c_2 : wr.cell? ⟨bb, o + i * 7 + 2, none⟩ = some (.int .u64 y.e.a.lo) := entry_at HL.out hb hcc hli (j := 2) (by rw [← hx]; rfl)
          have c_3 : wr.cell? ⟨bb, o + i * 7 + 3, none⟩ = some (.int .i64 y.e.n) := entry_at HL.out hb hcc hli (j := 3) (by rw [← hx]; rfl)
          have c_4 : wr.cell? ⟨bb, o + i * 7 + 4, none⟩ = some (.int .i64 y.st) := entry_at HL.out hb hcc hli (j := 4) (by rw [← hx]; rfl)
          have c_5 : wr.cell? ⟨bb, o + i * 7 + 5, none⟩ = some (.int .i64 y.f) := entry_at HL.out hb hcc hli (j := 5) (by rw [← hx]; rfl)
          have c_6 : wr.cell? ⟨bb, o + i * 7 + 6, none⟩ = some (.int .i64 y.nx) := entry_at HL.out hb hcc hli (j := 6) (by rw [← hx]; rfl)
          have HB := Lib.hid (Blk.new wr #[.bool y.e.a.v6, .int .u64 y.e.a.hi, .int .u64 y.e.a.lo, .int .i64 y.e.n, .int .i64 y.st, .int .i64 y.f, .int .i64 y.nx] 37)
          have HL2 := Lib.hid (Lows.alloc HL.out (.cells #[.bool y.e.a.v6, .int .u64 y.e.a.hi, .int .u64 y.e.a.lo, .int .i64 y.e.n, .int .i64 y.st, .int .i64 y.f, .int .i64 y.nx] 37))
          have o1 := OV.out.on HL.out
          have o2 := OV.out.on HL2.out
          have v0 := o1.cell (j := 0) rfl
          have v1 := o1.cell (j := 1) rfl
          have v2 := o1.cell (j := 2) rfl
          have u0 := o2.cell (j := 0) rfl
          have u1 := o2.cell (j := 1) rfl
          have u2 := o2.cell (j := 2) rfl
          clear o1 o2
          have o4 := OE.out.on HL2.out
          have e0 := o4.cell (j := 0) rfl
          have e1 := o4.cell (j := 1) rfl
          have e2 := o4.cell (j := 2) rfl
          have e3 := o4.cell (j := 3) rfl
          clear o4
          have EQ := fun W => eqEnd y.e E W
          have KR := Lib.hid (fun W => rrightY_any y hyo W)
          have KD := Lib.hid (fun W => rdue_any y t W)
          have HX2 := Lib.hid hx2
          clear hb hcc hx hx2
          cases sm with
          | false =>
            have HA2 : Hid (mayR b l s y t = (b.take (i + 1)).any fun y => mayR b l s y t) := Lib.hid (by rw [any_snoc hli HX2.out, ← HA.out]; first | rfl | simp)
            cases hq : sameE y.e E with
            | false =>
              rw [hq] at EQ
              have HF2 : Hid (Fnd (b.take (i + 1)) E t fd nx) := Lib.hid (fnd_skip HF.out hli HX2.out (by rw [hq]; rfl))
              have KM := Lib.hid (may_any _ _ _ _ _ _ b l s y t _ (HSW.out _ HL2.out) hyo)
              clear hq KR KD HF HA
              go_wp2_with fail
              refine KM.out.mono ?_; rintro e9 w7 ⟨rfl, hb7⟩
              have L7 := Lib.hid (low_trans HL2.out hb7)
              go_wp2_with fail
              go_roundw
              case rel => exact ⟨i + 1, _, fd, nx, rfl, rfl, rfl, by go_num, by omega, HA2, Lib.hid (HF2.out), L7⟩
              case measure => simp [intOf]; omega
            | true =>
              rw [hq] at EQ
              cases hr : rightY y with
              | false =>
                rw [hr] at KR
                have HF2 : Hid (Fnd (b.take (i + 1)) E t fd nx) := Lib.hid (fnd_skip HF.out hli HX2.out (by unfold rdY; rw [hr]; simp))
                go_wp2_with fail
                refine (KR.out _).mono ?_; rintro e9 w4 ⟨rfl, hb4⟩
                have L4 := Lib.hid (low_trans HL2.out hb4)
                have HBp := Lib.hid (HB.out.on hb4)
                have o1 := OV.out.on L4.out
                have o3 := HBp.out
                have pv0 := o1.cell (j := 0) rfl
                have pv1 := o1.cell (j := 1) rfl
                have pv2 := o1.cell (j := 2) rfl
                have py0 := o3.cell (j := 0) rfl
                have py1 := o3.cell (j := 1) rfl
                have py2 := o3.cell (j := 2) rfl
                have py3 := o3.cell (j := 3) rfl
                have py4 := o3.cell (j := 4) rfl
                have py5 := o3.cell (j := 5) rfl
                have py6 := o3.cell (j := 6) rfl
                clear o1 o3
                have KM := Lib.hid (may_any _ _ _ _ _ _ b l s y t w4 (HSW.out w4 L4.out) hyo)
                clear hb4 KR KD HF HA hq hr
                go_wp2_with fail
                refine KM.out.mono ?_; rintro e9 w7 ⟨rfl, hb7⟩
                have L7 := Lib.hid (low_trans L4.out hb7)
                go_wp2_with fail
                go_roundw
                case rel => exact ⟨i + 1, _, fd, nx, rfl, rfl, rfl, by go_num, by omega, HA2, Lib.hid (HF2.out), L7⟩
                case measure => simp [intOf]; omega
              | true =>
                rw [hr] at KR
                cases hd : dueY y t with
                | false =>
                  rw [hd] at KD
                  have HF2 : Hid (Fnd (b.take (i + 1)) E t fd nx) := Lib.hid (fnd_skip HF.out hli HX2.out (by unfold rdY; rw [hr, hd]; simp))
                  go_wp2_with fail
                  refine (KR.out _).mono ?_; rintro e9 w4 ⟨rfl, hb4⟩
                  have L4 := Lib.hid (low_trans HL2.out hb4)
                  have HBp := Lib.hid (HB.out.on hb4)
                  have o1 := OV.out.on L4.out
                  have o3 := HBp.out
                  have pv0 := o1.cell (j := 0) rfl
                  have pv1 := o1.cell (j := 1) rfl
                  have pv2 := o1.cell (j := 2) rfl
                  have py0 := o3.cell (j := 0) rfl
                  have py1 := o3.cell (j := 1) rfl
                  have py2 := o3.cell (j := 2) rfl
                  have py3 := o3.cell (j := 3) rfl
                  have py4 := o3.cell (j := 4) rfl
                  have py5 := o3.cell (j := 5) rfl
                  have py6 := o3.cell (j := 6) rfl
                  clear o1 o3
                  clear hb4 KR
                  go_wp2_with fail
                  refine (KD.out _).mono ?_; rintro e9 w5 ⟨rfl, hb5⟩
                  have L5 := Lib.hid (low_trans L4.out hb5)
                  have HBr := Lib.hid (HBp.out.on hb5)
                  have o1 := OV.out.on L5.out
                  have o3 := HBr.out
                  have rv0 := o1.cell (j := 0) rfl
                  have rv1 := o1.cell (j := 1) rfl
                  have rv2 := o1.cell (j := 2) rfl
                  have ry0 := o3.cell (j := 0) rfl
                  have ry1 := o3.cell (j := 1) rfl
                  have ry2 := o3.cell (j := 2) rfl
                  have ry3 := o3.cell (j := 3) rfl
                  have ry4 := o3.cell (j := 4) rfl
                  have ry5 := o3.cell (j := 5) rfl
                  have ry6 := o3.cell (j := 6) rfl
                  clear o1 o3
                  have KM := Lib.hid (may_any _ _ _ _ _ _ b l s y t w5 (HSW.out w5 L5.out) hyo)
                  clear hb5 KD HF HA hq hr hd
                  go_wp2_with fail
                  refine KM.out.mono ?_; rintro e9 w7 ⟨rfl, hb7⟩
                  have L7 := Lib.hid (low_trans L5.out hb7)
                  go_wp2_with fail
                  go_roundw
                  case rel => exact ⟨i + 1, _, fd, nx, rfl, rfl, rfl, by go_num, by omega, HA2, Lib.hid (HF2.out), L7⟩
                  case measure => simp [intOf]; omega
                | true =>
                  rw [hd] at KD
                  have HQ : Hid ((sameE y.e E && rdY y t) = true) := Lib.hid (by unfold rdY; rw [hq, hr, hd]; rfl)
                  cases fd with
                  | false =>
                    have HF2 : Hid (Fnd (b.take (i + 1)) E t true y.nx) := Lib.hid (fnd_new HF.out hli HX2.out HQ.out)
                    go_wp2_with fail
                    refine (KR.out _).mono ?_; rintro e9 w4 ⟨rfl, hb4⟩
                    have L4 := Lib.hid (low_trans HL2.out hb4)
                    have HBp := Lib.hid (HB.out.on hb4)
                    have o1 := OV.out.on L4.out
                    have o3 := HBp.out
                    have pv0 := o1.cell (j := 0) rfl
                    have pv1 := o1.cell (j := 1) rfl
                    have pv2 := o1.cell (j := 2) rfl
                    have py0 := o3.cell (j := 0) rfl
                    have py1 := o3.cell (j := 1) rfl
                    have py2 := o3.cell (j := 2) rfl
                    have py3 := o3.cell (j := 3) rfl
                    have py4 := o3.cell (j := 4) rfl
                    have py5 := o3.cell (j := 5) rfl
                    have py6 := o3.cell (j := 6) rfl
                    clear o1 o3
                    clear hb4 KR
                    go_wp2_with fail
                    refine (KD.out _).mono ?_; rintro e9 w5 ⟨rfl, hb5⟩
                    have L5 := Lib.hid (low_trans L4.out hb5)
                    have HBr := Lib.hid (HBp.out.on hb5)
                    have o1 := OV.out.on L5.out
                    have o3 := HBr.out
                    have rv0 := o1.cell (j := 0) rfl
                    have rv1 := o1.cell (j := 1) rfl
                    have rv2 := o1.cell (j := 2) rfl
                    have ry0 := o3.cell (j := 0) rfl
                    have ry1 := o3.cell (j := 1) rfl
                    have ry2 := o3.cell (j := 2) rfl
                    have ry3 := o3.cell (j := 3) rfl
                    have ry4 := o3.cell (j := 4) rfl
                    have ry5 := o3.cell (j := 5) rfl
                    have ry6 := o3.cell (j := 6) rfl
                    clear o1 o3
                    have KM := Lib.hid (may_any _ _ _ _ _ _ b l s y t w5 (HSW.out w5 L5.out) hyo)
                    clear hb5 KD HF HA hq hr hd
                    go_wp2_with fail
                    refine KM.out.mono ?_; rintro e9 w7 ⟨rfl, hb7⟩
                    have L7 := Lib.hid (low_trans L5.out hb7)
                    go_wp2_with fail
                    go_roundw
                    case rel => exact ⟨i + 1, _, true, y.nx, rfl, rfl, rfl, by go_num, by omega, HA2, Lib.hid (HF2.out), L7⟩
                    case measure => simp [intOf]; omega
                  | true =>
                    by_cases hn : y.nx < nx
                    · have HF2 : Hid (Fnd (b.take (i + 1)) E t true y.nx) := Lib.hid (fnd_less HF.out hli HX2.out HQ.out hn)
                      go_wp2_with fail
                      refine (KR.out _).mono ?_; rintro e9 w4 ⟨rfl, hb4⟩
                      have L4 := Lib.hid (low_trans HL2.out hb4)
                      have HBp := Lib.hid (HB.out.on hb4)
                      have o1 := OV.out.on L4.out
                      have o3 := HBp.out
                      have pv0 := o1.cell (j := 0) rfl
                      have pv1 := o1.cell (j := 1) rfl
                      have pv2 := o1.cell (j := 2) rfl
                      have py0 := o3.cell (j := 0) rfl
                      have py1 := o3.cell (j := 1) rfl
                      have py2 := o3.cell (j := 2) rfl
                      have py3 := o3.cell (j := 3) rfl
                      have py4 := o3.cell (j := 4) rfl
                      have py5 := o3.cell (j := 5) rfl
                      have py6 := o3.cell (j := 6) rfl
                      clear o1 o3
                      clear hb4 KR
                      go_wp2_with fail
                      refine (KD.out _).mono ?_; rintro e9 w5 ⟨rfl, hb5⟩
                      have L5 := Lib.hid (low_trans L4.out hb5)
                      have HBr := Lib.hid (HBp.out.on hb5)
                      have o1 := OV.out.on L5.out
                      have o3 := HBr.out
                      have rv0 := o1.cell (j := 0) rfl
                      have rv1 := o1.cell (j := 1) rfl
                      have rv2 := o1.cell (j := 2) rfl
                      have ry0 := o3.cell (j := 0) rfl
                      have ry1 := o3.cell (j := 1) rfl
                      have ry2 := o3.cell (j := 2) rfl
                      have ry3 := o3.cell (j := 3) rfl
                      have ry4 := o3.cell (j := 4) rfl
                      have ry5 := o3.cell (j := 5) rfl
                      have ry6 := o3.cell (j := 6) rfl
                      clear o1 o3
                      have KM := Lib.hid (may_any _ _ _ _ _ _ b l s y t w5 (HSW.out w5 L5.out) hyo)
                      clear hb5 KD HF HA hq hr hd
                      go_wp2_with fail
                      refine KM.out.mono ?_; rintro e9 w7 ⟨rfl, hb7⟩
                      have L7 := Lib.hid (low_trans L5.out hb7)
                      go_wp2_with fail
                      go_roundw
                      case rel => exact ⟨i + 1, _, true, y.nx, rfl, rfl, rfl, by go_num, by omega, HA2, Lib.hid (HF2.out), L7⟩
                      case measure => simp [intOf]; omega
                    · have HF2 : Hid (Fnd (b.take (i + 1)) E t true nx) := Lib.hid (fnd_keep HF.out hli HX2.out HQ.out hn)
                      go_wp2_with fail
                      refine (KR.out _).mono ?_; rintro e9 w4 ⟨rfl, hb4⟩
                      have L4 := Lib.hid (low_trans HL2.out hb4)
                      have HBp := Lib.hid (HB.out.on hb4)
                      have o1 := OV.out.on L4.out
                      have o3 := HBp.out
                      have pv0 := o1.cell (j := 0) rfl
                      have pv1 := o1.cell (j := 1) rfl
                      have pv2 := o1.cell (j := 2) rfl
                      have py0 := o3.cell (j := 0) rfl
                      have py1 := o3.cell (j := 1) rfl
                      have py2 := o3.cell (j := 2) rfl
                      have py3 := o3.cell (j := 3) rfl
                      have py4 := o3.cell (j := 4) rfl
                      have py5 := o3.cell (j := 5) rfl
                      have py6 := o3.cell (j := 6) rfl
                      clear o1 o3
                      clear hb4 KR
                      go_wp2_with fail
                      refine (KD.out _).mono ?_; rintro e9 w5 ⟨rfl, hb5⟩
                      have L5 := Lib.hid (low_trans L4.out hb5)
                      have HBr := Lib.hid (HBp.out.on hb5)
                      have o1 := OV.out.on L5.out
                      have o3 := HBr.out
                      have rv0 := o1.cell (j := 0) rfl
                      have rv1 := o1.cell (j := 1) rfl
                      have rv2 := o1.cell (j := 2) rfl
                      have ry0 := o3.cell (j := 0) rfl
                      have ry1 := o3.cell (j := 1) rfl
                      have ry2 := o3.cell (j := 2) rfl
                      have ry3 := o3.cell (j := 3) rfl
                      have ry4 := o3.cell (j := 4) rfl
                      have ry5 := o3.cell (j := 5) rfl
                      have ry6 := o3.cell (j := 6) rfl
                      clear o1 o3
                      have KM := Lib.hid (may_any _ _ _ _ _ _ b l s y t w5 (HSW.out w5 L5.out) hyo)
                      clear hb5 KD HF HA hq hr hd
                      go_wp2_with fail
                      refine KM.out.mono ?_; rintro e9 w7 ⟨rfl, hb7⟩
                      have L7 := Lib.hid (low_trans L5.out hb7)
                      go_wp2_with fail
                      go_roundw
                      case rel => exact ⟨i + 1, _, true, nx, rfl, rfl, rfl, by go_num, by omega, HA2, Lib.hid (HF2.out), L7⟩
                      case measure => simp [intOf]; omega
          | true =>
            have HA2 : Hid (true = (b.take (i + 1)).any fun y => mayR b l s y t) := Lib.hid (by rw [any_snoc hli HX2.out, ← HA.out]; first | rfl | simp)
            cases hq : sameE y.e E with
            | false =>
              rw [hq] at EQ
              have HF2 : Hid (Fnd (b.take (i + 1)) E t fd nx) := Lib.hid (fnd_skip HF.out hli HX2.out (by rw [hq]; rfl))
              clear hq KR KD HF HA
              go_wp2_with fail
              go_roundw
              case rel => exact ⟨i + 1, true, fd, nx, rfl, rfl, rfl, by go_num, by omega, HA2, Lib.hid (HF2.out), HL2⟩
              case measure => simp [intOf]; omega
            | true =>
              rw [hq] at EQ
              cases hr : rightY y with
              | false =>
                rw [hr] at KR
                have HF2 : Hid (Fnd (b.take (i + 1)) E t fd nx) := Lib.hid (fnd_skip HF.out hli HX2.out (by unfold rdY; rw [hr]; simp))
                go_wp2_with fail
                refine (KR.out _).mono ?_; rintro e9 w4 ⟨rfl, hb4⟩
                have L4 := Lib.hid (low_trans HL2.out hb4)
                have HBp := Lib.hid (HB.out.on hb4)
                have o1 := OV.out.on L4.out
                have o3 := HBp.out
                have pv0 := o1.cell (j := 0) rfl
                have pv1 := o1.cell (j := 1) rfl
                have pv2 := o1.cell (j := 2) rfl
                have py0 := o3.cell (j := 0) rfl
                have py1 := o3.cell (j := 1) rfl
                have py2 := o3.cell (j := 2) rfl
                have py3 := o3.cell (j := 3) rfl
                have py4 := o3.cell (j := 4) rfl
                have py5 := o3.cell (j := 5) rfl
                have py6 := o3.cell (j := 6) rfl
                clear o1 o3
                clear hb4 KR KD HF HA hq hr
                go_wp2_with fail
                go_roundw
                case rel => exact ⟨i + 1, true, fd, nx, rfl, rfl, rfl, by go_num, by omega, HA2, Lib.hid (HF2.out), L4⟩
                case measure => simp [intOf]; omega
              | true =>
                rw [hr] at KR
                cases hd : dueY y t with
                | false =>
                  rw [hd] at KD
                  have HF2 : Hid (Fnd (b.take (i + 1)) E t fd nx) := Lib.hid (fnd_skip HF.out hli HX2.out (by unfold rdY; rw [hr, hd]; simp))
                  go_wp2_with fail
                  refine (KR.out _).mono ?_; rintro e9 w4 ⟨rfl, hb4⟩
                  have L4 := Lib.hid (low_trans HL2.out hb4)
                  have HBp := Lib.hid (HB.out.on hb4)
                  have o1 := OV.out.on L4.out
                  have o3 := HBp.out
                  have pv0 := o1.cell (j := 0) rfl
                  have pv1 := o1.cell (j := 1) rfl
                  have pv2 := o1.cell (j := 2) rfl
                  have py0 := o3.cell (j := 0) rfl
                  have py1 := o3.cell (j := 1) rfl
                  have py2 := o3.cell (j := 2) rfl
                  have py3 := o3.cell (j := 3) rfl
                  have py4 := o3.cell (j := 4) rfl
                  have py5 := o3.cell (j := 5) rfl
                  have py6 := o3.cell (j := 6) rfl
                  clear o1 o3
                  clear hb4 KR
                  go_wp2_with fail
                  refine (KD.out _).mono ?_; rintro e9 w5 ⟨rfl, hb5⟩
                  have L5 := Lib.hid (low_trans L4.out hb5)
                  have HBr := Lib.hid (HBp.out.on hb5)
                  have o1 := OV.out.on L5.out
                  have o3 := HBr.out
                  have rv0 := o1.cell (j := 0) rfl
                  have rv1 := o1.cell (j := 1) rfl
                  have rv2 := o1.cell (j := 2) rfl
                  have ry0 := o3.cell (j := 0) rfl
                  have ry1 := o3.cell (j := 1) rfl
                  have ry2 := o3.cell (j := 2) rfl
                  have ry3 := o3.cell (j := 3) rfl
                  have ry4 := o3.cell (j := 4) rfl
                  have ry5 := o3.cell (j := 5) rfl
                  have ry6 := o3.cell (j := 6) rfl
                  clear o1 o3
                  clear hb5 KD HF HA hq hr hd
                  go_wp2_with fail
                  go_roundw
                  case rel => exact ⟨i + 1, true, fd, nx, rfl, rfl, rfl, by go_num, by omega, HA2, Lib.hid (HF2.out), L5⟩
                  case measure => simp [intOf]; omega
                | true =>
                  rw [hd] at KD
                  have HQ : Hid ((sameE y.e E && rdY y t) = true) := Lib.hid (by unfold rdY; rw [hq, hr, hd]; rfl)
                  cases fd with
                  | false =>
                    have HF2 : Hid (Fnd (b.take (i + 1)) E t true y.nx) := Lib.hid (fnd_new HF.out hli HX2.out HQ.out)
                    go_wp2_with fail
                    refine (KR.out _).mono ?_; rintro e9 w4 ⟨rfl, hb4⟩
                    have L4 := Lib.hid (low_trans HL2.out hb4)
                    have HBp := Lib.hid (HB.out.on hb4)
                    have o1 := OV.out.on L4.out
                    have o3 := HBp.out
                    have pv0 := o1.cell (j := 0) rfl
                    have pv1 := o1.cell (j := 1) rfl
                    have pv2 := o1.cell (j := 2) rfl
                    have py0 := o3.cell (j := 0) rfl
                    have py1 := o3.cell (j := 1) rfl
                    have py2 := o3.cell (j := 2) rfl
                    have py3 := o3.cell (j := 3) rfl
                    have py4 := o3.cell (j := 4) rfl
                    have py5 := o3.cell (j := 5) rfl
                    have py6 := o3.cell (j := 6) rfl
                    clear o1 o3
                    clear hb4 KR
                    go_wp2_with fail
                    refine (KD.out _).mono ?_; rintro e9 w5 ⟨rfl, hb5⟩
                    have L5 := Lib.hid (low_trans L4.out hb5)
                    have HBr := Lib.hid (HBp.out.on hb5)
                    have o1 := OV.out.on L5.out
                    have o3 := HBr.out
                    have rv0 := o1.cell (j := 0) rfl
                    have rv1 := o1.cell (j := 1) rfl
                    have rv2 := o1.cell (j := 2) rfl
                    have ry0 := o3.cell (j := 0) rfl
                    have ry1 := o3.cell (j := 1) rfl
                    have ry2 := o3.cell (j := 2) rfl
                    have ry3 := o3.cell (j := 3) rfl
                    have ry4 := o3.cell (j := 4) rfl
                    have ry5 := o3.cell (j := 5) rfl
                    have ry6 := o3.cell (j := 6) rfl
                    clear o1 o3
                    clear hb5 KD HF HA hq hr hd
                    go_wp2_with fail
                    go_roundw
                    case rel => exact ⟨i + 1, true, true, y.nx, rfl, rfl, rfl, by go_num, by omega, HA2, Lib.hid (HF2.out), L5⟩
                    case measure => simp [intOf]; omega
                  | true =>
                    by_cases hn : y.nx < nx
                    · have HF2 : Hid (Fnd (b.take (i + 1)) E t true y.nx) := Lib.hid (fnd_less HF.out hli HX2.out HQ.out hn)
                      go_wp2_with fail
                      refine (KR.out _).mono ?_; rintro e9 w4 ⟨rfl, hb4⟩
                      have L4 := Lib.hid (low_trans HL2.out hb4)
                      have HBp := Lib.hid (HB.out.on hb4)
                      have o1 := OV.out.on L4.out
                      have o3 := HBp.out
                      have pv0 := o1.cell (j := 0) rfl
                      have pv1 := o1.cell (j := 1) rfl
                      have pv2 := o1.cell (j := 2) rfl
                      have py0 := o3.cell (j := 0) rfl
                      have py1 := o3.cell (j := 1) rfl
                      have py2 := o3.cell (j := 2) rfl
                      have py3 := o3.cell (j := 3) rfl
                      have py4 := o3.cell (j := 4) rfl
                      have py5 := o3.cell (j := 5) rfl
                      have py6 := o3.cell (j := 6) rfl
                      clear o1 o3
                      clear hb4 KR
                      go_wp2_with fail
                      refine (KD.out _).mono ?_; rintro e9 w5 ⟨rfl, hb5⟩
                      have L5 := Lib.hid (low_trans L4.out hb5)
                      have HBr := Lib.hid (HBp.out.on hb5)
                      have o1 := OV.out.on L5.out
                      have o3 := HBr.out
                      have rv0 := o1.cell (j := 0) rfl
                      have rv1 := o1.cell (j := 1) rfl
                      have rv2 := o1.cell (j := 2) rfl
                      have ry0 := o3.cell (j := 0) rfl
                      have ry1 := o3.cell (j := 1) rfl
                      have ry2 := o3.cell (j := 2) rfl
                      have ry3 := o3.cell (j := 3) rfl
                      have ry4 := o3.cell (j := 4) rfl
                      have ry5 := o3.cell (j := 5) rfl
                      have ry6 := o3.cell (j := 6) rfl
                      clear o1 o3
                      clear hb5 KD HF HA hq hr hd
                      go_wp2_with fail
                      go_roundw
                      case rel => exact ⟨i + 1, true, true, y.nx, rfl, rfl, rfl, by go_num, by omega, HA2, Lib.hid (HF2.out), L5⟩
                      case measure => simp [intOf]; omega
                    · have HF2 : Hid (Fnd (b.take (i + 1)) E t true nx) := Lib.hid (fnd_keep HF.out hli HX2.out HQ.out hn)
                      go_wp2_with fail
                      refine (KR.out _).mono ?_; rintro e9 w4 ⟨rfl, hb4⟩
                      have L4 := Lib.hid (low_trans HL2.out hb4)
                      have HBp := Lib.hid (HB.out.on hb4)
                      have o1 := OV.out.on L4.out
                      have o3 := HBp.out
                      have pv0 := o1.cell (j := 0) rfl
                      have pv1 := o1.cell (j := 1) rfl
                      have pv2 := o1.cell (j := 2) rfl
                      have py0 := o3.cell (j := 0) rfl
                      have py1 := o3.cell (j := 1) rfl
                      have py2 := o3.cell (j := 2) rfl
                      have py3 := o3.cell (j := 3) rfl
                      have py4 := o3.cell (j := 4) rfl
                      have py5 := o3.cell (j := 5) rfl
                      have py6 := o3.cell (j := 6) rfl
                      clear o1 o3
                      clear hb4 KR
                      go_wp2_with fail
                      refine (KD.out _).mono ?_; rintro e9 w5 ⟨rfl, hb5⟩
                      have L5 := Lib.hid (low_trans L4.out hb5)
                      have HBr := Lib.hid (HBp.out.on hb5)
                      have o1 := OV.out.on L5.out
                      have o3 := HBr.out
                      have rv0 := o1.cell (j := 0) rfl
                      have rv1 := o1.cell (j := 1) rfl
                      have rv2 := o1.cell (j := 2) rfl
                      have ry0 := o3.cell (j := 0) rfl
                      have ry1 := o3.cell (j := 1) rfl
                      have ry2 := o3.cell (j := 2) rfl
                      have ry3 := o3.cell (j := 3) rfl
                      have ry4 := o3.cell (j := 4) rfl
                      have ry5 := o3.cell (j := 5) rfl
                      have ry6 := o3.cell (j := 6) rfl
                      clear o1 o3
                      clear hb5 KD HF HA hq hr hd
                      go_wp2_with fail
                      go_roundw
                      case rel => exact ⟨i + 1, true, true, nx, rfl, rfl, rfl, by go_num, by omega, HA2, Lib.hid (HF2.out), L5⟩
                      case measure => simp [intOf]; omega
        · have hliz : ¬ (i : Int) < (b.length : Int) := by omega
          have HN := Lib.hid (fnd_end (b := b) (by have := HF.out; rwa [List.take_of_length_le (by omega)] at this) HP.out HE.out)
          obtain rfl : fd = true := HN.out.1
          obtain rfl : sm = true := by
            have := HA.out
            rw [List.take_of_length_le (by omega), pick_some, HP.out] at this
            exact this
          have o1 := OV.out.on HL.out
          have v0 := o1.cell (j := 0) rfl
          have v1 := o1.cell (j := 1) rfl
          have v2 := o1.cell (j := 2) rfl
          clear o1 hi HA HF
          go_wp2_with fail
          clear hli hliz v0 v1 v2
          go_loopw [12] (fun vi wr => ∃ i : Nat, vi = .int .i64 i ∧ i ≤ b.length ∧ Hid (Lows w3 wr)) (fun vi _ => b.length - (intOf vi).toNat)
          case atStart => exact ⟨0, rfl, Nat.zero_le _, HL⟩
          case round =>
            clear HL
            obtain ⟨i, rfl, hi, HL⟩ := hrel
            by_cases hli : i < b.length
            · have hliz : (i : Int) < (b.length : Int) := by omega
              obtain ⟨bb, o, hA, hb, hcc⟩ := HC1.out (by omega)
              subst hA
              obtain ⟨y, hx⟩ : ∃ y, y = b[i]! := ⟨_, rfl⟩
              have hx2 : b[i] = y := by rw [hx, getElem!_pos b i hli]
              have hym : y ∈ b := by rw [← hx2]; exact List.getElem_mem _
              have hyo : y.ok := HOB.out.1 y hym
              have c_0 : wr.cell? ⟨bb, o + i * 7, none⟩ = some (.bool y.e.a.v6) := entry_at HL.out hb hcc hli (j := 0) (by rw [← hx]; rfl)
              have c_1 : wr.cell? ⟨bb, o + i * 7 + 1, none⟩ = some (.int .u64 y.e.a.hi) := entry_at HL.out hb hcc hli (j := 1) (by rw [← hx]; rfl)
              have c_2 : wr.cell? ⟨bb, o + i * 7 + 2, none⟩ = some (.int .u64 y.e.a.lo) := entry_at HL.out hb hcc hli (j := 2) (by rw [← hx]; rfl)
              have c_3 : wr.cell? ⟨bb, o + i * 7 + 3, none⟩ = some (.int .i64 y.e.n) := entry_at HL.out hb hcc hli (j := 3) (by rw [← hx]; rfl)
              have c_4 : wr.cell? ⟨bb, o + i * 7 + 4, none⟩ = some (.int .i64 y.st) := entry_at HL.out hb hcc hli (j := 4) (by rw [← hx]; rfl)
              have c_5 : wr.cell? ⟨bb, o + i * 7 + 5, none⟩ = some (.int .i64 y.f) := entry_at HL.out hb hcc hli (j := 5) (by rw [← hx]; rfl)
              have c_6 : wr.cell? ⟨bb, o + i * 7 + 6, none⟩ = some (.int .i64 y.nx) := entry_at HL.out hb hcc hli (j := 6) (by rw [← hx]; rfl)
              have HB := Lib.hid (Blk.new wr #[.bool y.e.a.v6, .int .u64 y.e.a.hi, .int .u64 y.e.a.lo, .int .i64 y.e.n, .int .i64 y.st, .int .i64 y.f, .int .i64 y.nx] 37)
              have HL2 := Lib.hid (Lows.alloc HL.out (.cells #[.bool y.e.a.v6, .int .u64 y.e.a.hi, .int .u64 y.e.a.lo, .int .i64 y.e.n, .int .i64 y.st, .int .i64 y.f, .int .i64 y.nx] 37))
              have o1 := OV.out.on HL.out
              have o2 := OV.out.on HL2.out
              have v0 := o1.cell (j := 0) rfl
              have v1 := o1.cell (j := 1) rfl
              have v2 := o1.cell (j := 2) rfl
              have u0 := o2.cell (j := 0) rfl
              have u1 := o2.cell (j := 1) rfl
              have u2 := o2.cell (j := 2) rfl
              clear o1 o2
              obtain ⟨mb, hmb⟩ : ∃ mb, mb = mayR b l s y t := ⟨_, rfl⟩
              have KM := Lib.hid (may_any _ _ _ _ _ _ b l s y t _ (HSW.out _ HL2.out) hyo)
              rw [← hmb] at KM
              have hnl : mb = true → ¬ y.nx < nx := fun h => Int.not_lt.2 (HN.out.2 y hym (by rw [← hmb, h]))
              have KS := Lib.hid (fun (h : y.st = 2) W => rsameG_any y.e.a E.a W hyo.he.1 HEO.out.1)
              have KF : Hid (y.st = 2 → sameG y.e.a E.a = false) := Lib.hid fun h => open_fly HO.out hym h
              clear hmb hx hx2 hym hb hcc
              go_wp2_with fail
              refine KM.out.mono ?_; rintro e9 w4 ⟨rfl, hb4⟩
              have L4 := Lib.hid (low_trans HL2.out hb4)
              have o3 := HB.out.on hb4
              have o4 := OE.out.on L4.out
              have y0 := o3.cell (j := 0) rfl
              have y1 := o3.cell (j := 1) rfl
              have y2 := o3.cell (j := 2) rfl
              have y3 := o3.cell (j := 3) rfl
              have y4 := o3.cell (j := 4) rfl
              have y5 := o3.cell (j := 5) rfl
              have y6 := o3.cell (j := 6) rfl
              have e0 := o4.cell (j := 0) rfl
              have e1 := o4.cell (j := 1) rfl
              have e2 := o4.cell (j := 2) rfl
              have e3 := o4.cell (j := 3) rfl
              clear hb4 KM HB HL HL2 o3 o4 c_0 c_1 c_2 c_3 c_4 c_5 c_6 v0 v1 v2 u0 u1 u2
              cases mb with
              | false =>
                clear hnl
                by_cases hs : y.st = 2
                · have hsb : (y.st == 2) = true := by rw [hs]; rfl
                  have KS1 := Lib.hid (KS.out hs)
                  rw [KF.out hs] at KS1
                  clear KS KF hs
                  go_wp2_with fail
                  refine (KS1.out _).mono ?_; rintro e9 w5 ⟨rfl, hb5⟩
                  have L5 := Lib.hid (low_trans L4.out hb5)
                  clear hb5 KS1
                  go_wp2_with fail
                  go_roundw
                  case rel => exact ⟨i + 1, by go_num, by omega, L5⟩
                  case measure => simp [intOf]; omega
                · have hsb : (y.st == 2) = false := by rw [beq_eq_false_iff_ne]; exact hs
                  clear KS KF hs
                  go_wp2_with fail
                  go_roundw
                  case rel => exact ⟨i + 1, by go_num, by omega, L4⟩
                  case measure => simp [intOf]; omega
              | true =>
                have hn := hnl rfl
                clear hnl
                by_cases hs : y.st = 2
                · have hsb : (y.st == 2) = true := by rw [hs]; rfl
                  have KS1 := Lib.hid (KS.out hs)
                  rw [KF.out hs] at KS1
                  clear KS KF hs
                  go_wp2_with fail
                  refine (KS1.out _).mono ?_; rintro e9 w5 ⟨rfl, hb5⟩
                  have L5 := Lib.hid (low_trans L4.out hb5)
                  clear hb5 KS1
                  go_wp2_with fail
                  go_roundw
                  case rel => exact ⟨i + 1, by go_num, by omega, L5⟩
                  case measure => simp [intOf]; omega
                · have hsb : (y.st == 2) = false := by rw [beq_eq_false_iff_ne]; exact hs
                  clear KS KF hs
                  go_wp2_with fail
                  go_roundw
                  case rel => exact ⟨i + 1, by go_num, by omega, L4⟩
                  case measure => simp [intOf]; omega
            · have hliz : ¬ (i : Int) < (b.length : Int) := by omega
              have o1 := OV.out.on HL.out
              have v0 := o1.cell (j := 0) rfl
              have v1 := o1.cell (j := 1) rfl
              have v2 := o1.cell (j := 2) rfl
              clear o1 hi
              go_wp2_with fail
              clear hli hliz v0 v1 v2
              go_loopw [14] (fun vi wr => ∃ i : Nat, vi = .int .i64 i ∧ i ≤ s.length ∧ Hid (Lows w3 wr)) (fun vi _ => s.length - (intOf vi).toNat)
              case atStart => exact ⟨0, rfl, Nat.zero_le _, HL⟩
              case round =>
                clear HL
                obtain ⟨i, rfl, hi, HL⟩ := hrel
                have v0 := (OV.out.on HL.out).cell (j := 0) rfl
                have v1 := (OV.out.on HL.out).cell (j := 1) rfl
                have v2 := (OV.out.on HL.out).cell (j := 2) rfl
                by_cases hli : i < s.length
                · have hliz : (i : Int) < (s.length : Int) := by omega
                  obtain ⟨bb, o, hA, hb, hcc⟩ := HC3.out (by omega)
                  subst hA
                  obtain ⟨z, hx⟩ : ∃ z, z = s[i]! := ⟨_, rfl⟩
                  have hx2 : s[i] = z := by rw [hx, getElem!_pos s i hli]
                  have hzm : z ∈ s := by rw [← hx2]; exact List.getElem_mem _
                  have hzo : z.ok := HOB.out.2.2 z hzm
                  have hne : Nonempty (Cls (Lows wr)) := ⟨⟨_, Lows.self _⟩⟩
                  have f0 : ∀ nq : Cls (Lows wr), nq.w.cell? ⟨bb, o + i * 5, none⟩ = some (.bool z.n.a.v6) := fun nq => ban_at (low_trans HL.out nq.h) hb hcc hli hx2 (j := 0) rfl
                  have f1 : ∀ nq : Cls (Lows wr), nq.w.cell? ⟨bb, o + i * 5 + 1, none⟩ = some (.int .u64 z.n.a.hi) := fun nq => ban_at (low_trans HL.out nq.h) hb hcc hli hx2 (j := 1) rfl
                  have f2 : ∀ nq : Cls (Lows wr), nq.w.cell? ⟨bb, o + i * 5 + 2, none⟩ = some (.int .u64 z.n.a.lo) := fun nq => ban_at (low_trans HL.out nq.h) hb hcc hli hx2 (j := 2) rfl
                  have f3 : ∀ nq : Cls (Lows wr), nq.w.cell? ⟨bb, o + i * 5 + 3, none⟩ = some (.int .i64 z.n.n) := fun nq => ban_at (low_trans HL.out nq.h) hb hcc hli hx2 (j := 3) rfl
                  have f4 : ∀ nq : Cls (Lows wr), nq.w.cell? ⟨bb, o + i * 5 + 4, none⟩ = some (.int .i64 z.t) := fun nq => ban_at (low_trans HL.out nq.h) hb hcc hli hx2 (j := 4) rfl
                  have g0 : ∀ nq : Cls (Lows wr), nq.w.cell? ⟨w.heap.size, 0, none⟩ = some (.slice A1 b.length c1) := fun nq => Blk.in OV (low_trans HL.out nq.h) rfl
                  have g1 : ∀ nq : Cls (Lows wr), nq.w.cell? ⟨w.heap.size, 1, none⟩ = some (.slice A2 l.length c2) := fun nq => Blk.in OV (low_trans HL.out nq.h) rfl
                  have g2 : ∀ nq : Cls (Lows wr), nq.w.cell? ⟨w.heap.size, 2, none⟩ = some (.slice (some ⟨bb, o, none⟩) s.length c3) := fun nq => Blk.in OV (low_trans HL.out nq.h) rfl
                  have h0 : ∀ nq : Cls (Lows wr), nq.w.cell? ⟨q, 0, none⟩ = some (.bool E.a.v6) := fun nq => Blk.in OE (low_trans HL.out nq.h) rfl
                  have h1 : ∀ nq : Cls (Lows wr), nq.w.cell? ⟨q, 1, none⟩ = some (.int .u64 E.a.hi) := fun nq => Blk.in OE (low_trans HL.out nq.h) rfl
                  have h2 : ∀ nq : Cls (Lows wr), nq.w.cell? ⟨q, 2, none⟩ = some (.int .u64 E.a.lo) := fun nq => Blk.in OE (low_trans HL.out nq.h) rfl
                  have h3 : ∀ nq : Cls (Lows wr), nq.w.cell? ⟨q, 3, none⟩ = some (.int .i64 E.n) := fun nq => Blk.in OE (low_trans HL.out nq.h) rfl
                  by_cases hz : 0 < z.t
                  · have hd : decide (0 < z.t) = true := decide_eq_true hz
                    have KH := Lib.hid (fun W => Ba.rhitsB_any z E.a t W hzo HEO.out.1)
                    rw [open_until HO.out hzm hz] at KH
                    clear hx hx2 hzm hzo hb hcc
                    go_wp2_with fail
                    refine Cls.region (Lows wr) (by kernel_rfl) (by kernel_rfl) (low_drewN (Below.refl _ _) 1) ?_
                    (try dsimp only [List.append])
                    repeat (go_big_quiet_step (first | fail | (with_reducible exact Cls.call ((lows_call KH).out _ (Cls.h _)))))
                    refine wpQuiet_nil ?_
                    intro n9
                    have hk9 := n9.h
                    generalize n9.w = w9 at hk9 ⊢
                    clear hne n9 g0 g1 g2 h0 h1 h2 h3 f0 f1 f2 f3 f4
                    have L9 := Lib.hid (low_trans HL.out hk9)
                    clear hk9
                    go_wp2_with fail
                    go_roundw
                    case rel => exact ⟨i + 1, by go_num, by omega, L9⟩
                    case measure => simp [intOf]; omega
                  · have hd : decide (0 < z.t) = false := decide_eq_false hz
                    clear hx hx2 hzm hzo hb hcc
                    go_wp2_with fail
                    refine Cls.region (Lows wr) (by kernel_rfl) (by kernel_rfl) (low_drewN (Below.refl _ _) 1) ?_
                    (try dsimp only [List.append])
                    repeat (go_big_quiet_step (first | fail))
                    refine wpQuiet_nil ?_
                    intro n9
                    have hk9 := n9.h
                    generalize n9.w = w9 at hk9 ⊢
                    clear hne n9 g0 g1 g2 h0 h1 h2 h3 f0 f1 f2 f3 f4
                    have L9 := Lib.hid (low_trans HL.out hk9)
                    clear hk9
                    go_wp2_with fail
                    go_roundw
                    case rel => exact ⟨i + 1, by go_num, by omega, L9⟩
                    case measure => simp [intOf]; omega
                · have hliz : ¬ (i : Int) < (s.length : Int) := by omega
                  clear hi
                  go_wp2_with fail
                  clear hli hliz v0 v1 v2
                  go_loopw [15] (fun vi wr => ∃ i : Nat, vi = .int .i64 i ∧ i ≤ l.length ∧ Hid (Lows w3 wr)) (fun vi _ => l.length - (intOf vi).toNat)
                  case atStart => exact ⟨0, rfl, Nat.zero_le _, HL⟩
                  case round =>
                    clear HL
                    obtain ⟨i, rfl, hi, HL⟩ := hrel
                    have v0 := (OV.out.on HL.out).cell (j := 0) rfl
                    have v1 := (OV.out.on HL.out).cell (j := 1) rfl
                    have v2 := (OV.out.on HL.out).cell (j := 2) rfl
                    by_cases hli : i < l.length
                    · have hliz : (i : Int) < (l.length : Int) := by omega
                      obtain ⟨bb, o, hA, hb, hcc⟩ := HC2.out (by omega)
                      subst hA
                      obtain ⟨z, hx⟩ : ∃ z, z = l[i]! := ⟨_, rfl⟩
                      have hzm : z ∈ l := by rw [hx, getElem!_pos l i hli]; exact List.getElem_mem _
                      have hzo : z.ok := HOB.out.2.1 z hzm
                      have hne : Nonempty (Cls (Lows wr)) := ⟨⟨_, Lows.self _⟩⟩
                      have f0 : ∀ nq : Cls (Lows wr), nq.w.cell? ⟨bb, o + i * 10, none⟩ = some (.bool z.e.a.v6) := fun nq => peer_at (low_trans HL.out nq.h) hb hcc hli (j := 0) (by rw [← hx]; rfl)
                      have f1 : ∀ nq : Cls (Lows wr), nq.w.cell? ⟨bb, o + i * 10 + 1, none⟩ = some (.int .u64 z.e.a.hi) := fun nq => peer_at (low_trans HL.out nq.h) hb hcc hli (j := 1) (by rw [← hx]; rfl)
                      have f2 : ∀ nq : Cls (Lows wr), nq.w.cell? ⟨bb, o + i * 10 + 2, none⟩ = some (.int .u64 z.e.a.lo) := fun nq => peer_at (low_trans HL.out nq.h) hb hcc hli (j := 2) (by rw [← hx]; rfl)
                      have f3 : ∀ nq : Cls (Lows wr), nq.w.cell? ⟨bb, o + i * 10 + 3, none⟩ = some (.int .i64 z.e.n) := fun nq => peer_at (low_trans HL.out nq.h) hb hcc hli (j := 3) (by rw [← hx]; rfl)
                      have f4 : ∀ nq : Cls (Lows wr), nq.w.cell? ⟨bb, o + i * 10 + 4, none⟩ = some (.bool z.i) := fun nq => peer_at (low_trans HL.out nq.h) hb hcc hli (j := 4) (by rw [← hx]; rfl)
                      have f5 : ∀ nq : Cls (Lows wr), nq.w.cell? ⟨bb, o + i * 10 + 5, none⟩ = some (.int .i64 z.t) := fun nq => peer_at (low_trans HL.out nq.h) hb hcc hli (j := 5) (by rw [← hx]; rfl)
                      have f6 : ∀ nq : Cls (Lows wr), nq.w.cell? ⟨bb, o + i * 10 + 6, none⟩ = some (.int .i64 z.c.p) := fun nq => peer_at (low_trans HL.out nq.h) hb hcc hli (j := 6) (by rw [← hx]; rfl)
                      have f7 : ∀ nq : Cls (Lows wr), nq.w.cell? ⟨bb, o + i * 10 + 7, none⟩ = some (.int .i64 z.c.a) := fun nq => peer_at (low_trans HL.out nq.h) hb hcc hli (j := 7) (by rw [← hx]; rfl)
                      have f8 : ∀ nq : Cls (Lows wr), nq.w.cell? ⟨bb, o + i * 10 + 8, none⟩ = some (.int .i64 z.g) := fun nq => peer_at (low_trans HL.out nq.h) hb hcc hli (j := 8) (by rw [← hx]; rfl)
                      have f9 : ∀ nq : Cls (Lows wr), nq.w.cell? ⟨bb, o + i * 10 + 9, none⟩ = some (.int .i64 z.k) := fun nq => peer_at (low_trans HL.out nq.h) hb hcc hli (j := 9) (by rw [← hx]; rfl)
                      have g0 : ∀ nq : Cls (Lows wr), nq.w.cell? ⟨w.heap.size, 0, none⟩ = some (.slice A1 b.length c1) := fun nq => Blk.in OV (low_trans HL.out nq.h) rfl
                      have g1 : ∀ nq : Cls (Lows wr), nq.w.cell? ⟨w.heap.size, 1, none⟩ = some (.slice (some ⟨bb, o, none⟩) l.length c2) := fun nq => Blk.in OV (low_trans HL.out nq.h) rfl
                      have g2 : ∀ nq : Cls (Lows wr), nq.w.cell? ⟨w.heap.size, 2, none⟩ = some (.slice A3 s.length c3) := fun nq => Blk.in OV (low_trans HL.out nq.h) rfl
                      have h0 : ∀ nq : Cls (Lows wr), nq.w.cell? ⟨q, 0, none⟩ = some (.bool E.a.v6) := fun nq => Blk.in OE (low_trans HL.out nq.h) rfl
                      have h1 : ∀ nq : Cls (Lows wr), nq.w.cell? ⟨q, 1, none⟩ = some (.int .u64 E.a.hi) := fun nq => Blk.in OE (low_trans HL.out nq.h) rfl
                      have h2 : ∀ nq : Cls (Lows wr), nq.w.cell? ⟨q, 2, none⟩ = some (.int .u64 E.a.lo) := fun nq => Blk.in OE (low_trans HL.out nq.h) rfl
                      have h3 : ∀ nq : Cls (Lows wr), nq.w.cell? ⟨q, 3, none⟩ = some (.int .i64 E.n) := fun nq => Blk.in OE (low_trans HL.out nq.h) rfl
                      have EQ := fun W => eqEnd z.e E W
                      rw [open_here HO.out hzm] at EQ
                      cases hz : z.i with
                      | false =>
                        have KS := Lib.hid (fun W => rsameG_any z.e.a E.a W hzo.1.1 HEO.out.1)
                        rw [open_out HO.out hzm hz] at KS
                        rw [hz] at f4
                        clear hx hzm hzo hb hcc hz
                        go_wp2_with fail
                        refine Cls.region (Lows wr) (by kernel_rfl) (by kernel_rfl) (low_drewN (Below.refl _ _) 1) ?_
                        (try dsimp only [List.append])
                        repeat (go_big_quiet_step (first | fail | (with_reducible exact Cls.call ((lows_call KS).out _ (Cls.h _)))))
                        refine wpQuiet_nil ?_
                        intro n9
                        have hk9 := n9.h
                        generalize n9.w = w9 at hk9 ⊢
                        clear hne n9 g0 g1 g2 h0 h1 h2 h3 f0 f1 f2 f3 f4 f5 f6 f7 f8 f9
                        have L9 := Lib.hid (low_trans HL.out hk9)
                        clear hk9
                        go_wp2_with fail
                        go_roundw
                        case rel => exact ⟨i + 1, by go_num, by omega, L9⟩
                        case measure => simp [intOf]; omega
                      | true =>
                        rw [hz] at f4
                        clear hx hzm hzo hb hcc hz
                        go_wp2_with fail
                        refine Cls.region (Lows wr) (by kernel_rfl) (by kernel_rfl) (low_drewN (Below.refl _ _) 1) ?_
                        (try dsimp only [List.append])
                        repeat (go_big_quiet_step (first | fail))
                        refine wpQuiet_nil ?_
                        intro n9
                        have hk9 := n9.h
                        generalize n9.w = w9 at hk9 ⊢
                        clear hne n9 g0 g1 g2 h0 h1 h2 h3 f0 f1 f2 f3 f4 f5 f6 f7 f8 f9
                        have L9 := Lib.hid (low_trans HL.out hk9)
                        clear hk9
                        go_wp2_with fail
                        go_roundw
                        case rel => exact ⟨i + 1, by go_num, by omega, L9⟩
                        case measure => simp [intOf]; omega
                    · have hliz : ¬ (i : Int) < (l.length : Int) := by omega
                      clear hi
                      go_wp2_with fail
                      refine (AW.out _).mono ?_; rintro e9 w9 ⟨rfl, hb9⟩
                      go_wp2_with fail
                      go_ret
                      exact ⟨rfl, low_trans LW.out (low_trans HL.out hb9)⟩
namespace dialSound
theorem contract (H : Type) (enc : TypeId × Value → H) (W : World) (base : Nat) (args : Array Value) (ds gs : List (DataW H)) (before : List MemPlace)
    (hval0 : ∀ (j : Nat) t v, Try.f3.params[j]? = some t → args[j]? = some v → Value.okWide Try.prog W .any base t v)
    (hW : DataW.Whole enc Try.prog Try.f3.params.toList Rows.dialSoundSpec.vars false W args.toList ds gs before) (hSh : W.ShapedOpen Try.prog) :
    Calls Try.prog 3 args W fun e W' => ∃ v, e = .returned v ∧ Rows.dialSoundSpec.post enc Try.prog Try.f3 false true false false W args v W' := by
  have hval : ∀ (j : Nat) t v, Try.f3.params[j]? = some t → args[j]? = some v → Value.okWide Try.prog W .any base t v := hval0
  have hW' := hW
  obtain ⟨p, q, hA0, hV, _, _, _⟩ := hW
  have hA : DataW.TrodAll enc Try.prog W 0 (fun _ => true) true Try.f3.params.toList args.toList ds p := hA0
  rw [Try.params3] at hA hval
  obtain ⟨v0, vs0, d0, ds0, p0, q0, hargs, rfl, rfl, h0, r0⟩ := trodAll_cons hA
  obtain ⟨v1, vs1, d1, ds1, p1, q1, rfl, rfl, rfl, h1, r1⟩ := trodAll_cons r0
  obtain ⟨rfl, rfl, rfl⟩ := trodAll_nil r1
  obtain rfl : args = #[v0, v1] := by cases args; simp_all
  obtain ⟨rfl, rfl⟩ := trodVars_none hV
  obtain ⟨A0, c0, B0, e0, C0, f0, x0, y0, z0, rfl, n0, s0, t0, u0⟩ := open_view (hval 0 26 v0 rfl rfl) h0
  obtain ⟨b1, rfl, rfl, rfl, w1⟩ := open_int Try.underlying3 (hval 1 3 v1 rfl rfl) h1
  clear hA0 hval0
  refine (dialSound_walk W A0 c0 B0 e0 C0 f0 x0 y0 z0 n0 s0 t0 u0 b1 (wf64 w1)).mono fun e W' ⟨he, hg⟩ => ?_
  subst he
  exact ⟨_, rfl, post_law laidOut (by kernel_rfl) (by kernel_rfl) Try.underlying4 rfl hW' rfl rfl rfl hg⟩
set_option maxRecDepth 100000 in
theorem lifted (os : Os) (started : os.Started) (H : Type) (enc : TypeId × Value → H) (F : Stop.Interp) :
    ReturnsInHanded {} Try.checked os 3 .any ((OpenSpec.ofChange Rows.dialSoundSpec).preRow enc Try.prog Try.f3 Rows.dialSoundRow.domain false Rows.dialSoundRow.laid) (((OpenSpec.ofChange Rows.dialSoundSpec).at F).post enc Try.prog Try.f3 false true false false) := by
  refine returnsInHanded_of_row (C := Try.checked) (s := OpenSpec.ofChange Rows.dialSoundSpec) own started (by kernel_rfl) Try.func3
    (witness_laid (enc := enc) (C := Try.checked) (s := OpenSpec.ofChange Rows.dialSoundSpec) (laid := Rows.dialSoundRow.laid) #[.agg #[.slice none 0 0, .slice none 0 0, .slice none 0 0], .int .i64 0] (World.shaped_of_ZipB (by kernel_rfl) (by kernel_rfl)) (by kernel_rfl)
      (OpenSpec.preRow_of_cond 8 (x := ([.agg [.nil, .nil, .nil], .lit (.int .i64 0)], [], [])) (by kernel_rfl) (by kernel_rfl) (fun k hk => by cases hk) (by kernel_rfl)
        (by rw [MakeChecks.laidMetH_plain _ _ _ (by kernel_rfl)]; exact laidMet_laidAll _ (by kernel_rfl) (by kernel_rfl)))) ?_
  intro W base args ds gs before hval hW _ hcond _ _ hsh _
  exact contract H enc W base args ds gs before hval hW hsh
theorem over : Rows.dialSoundRow.holds Try.pinned (OpenSpec.ofChange Rows.dialSoundSpec) :=
  OpenClaim.holds_of_cond 3 Try.f3 rfl rfl rfl rfl rfl rfl rfl ⟨rfl, rfl, rfl, rfl, rfl⟩ rfl rfl rfl rfl rfl (by kernel_rfl) Try.func3 (by kernel_rfl)
    (of_decide_eq_true (by kernel_rfl)) (by unfold Func.isWrapper; first | (rw [if_pos (by decide +kernel)]; kernel_rfl) | (rw [if_neg (by decide +kernel)]; exact ⟨rfl, rfl⟩))
    (fun os started H enc _ F => by rw [OpenClaim.pre_eq_preRow]; exact lifted os started H enc F)
/-- ████ THE STATEMENT ████ -/
theorem proved : Rows.DialSoundSaid := over
end dialSound
end Go.Proofs.Ytgnjbbohphoojaa
