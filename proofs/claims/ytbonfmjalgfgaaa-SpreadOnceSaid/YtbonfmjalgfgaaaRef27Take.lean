/- The document's answers of layer 27: the groups that are taken. -/
import Derived.Test.YtbonfmjalgfgaaaRef27
namespace Go.Proofs.Ytbonfmjalgfgaaa.Sp
set_option maxRecDepth 100000
open Go.ChangeShapes Go.WideShapes Go.ChangeAt Go.RowKit
open Pe Et Ra Bo
open Dec Words V4 V6 Ad Ci En Gr Go.Deep
set_option linter.unusedVariables false
theorem puts_ok {l : List Pe.Pr} {b : List Ey} (hl : ∀ x ∈ l, x.ok) (hb : ∀ y ∈ b, y.ok) {pre : List Net} (h : pre <+: takL l b) : ∀ n ∈ putsN [] pre, n.ok := fun n hn => by
  rw [puts_mem] at hn
  rcases hn with hn | hn
  · simp at hn
  · exact tak_ok hl hb n (h.subset hn)
theorem puts_few {l : List Pe.Pr} {b : List Ey} (hl : l.length ≤ 400000) (hb : b.length ≤ 400000) {pre : List Net} (h : pre <+: takL l b) : (putsN [] pre).length ≤ 800000 := by
  have h1 := puts_len pre []
  have h2 := h.length_le
  have h3 := tak_len l b
  simp only [List.length_nil] at h1
  omega
set_option maxHeartbeats 8000000 in
theorem rtakenN_any (vp vb : Value) (L : List Pe.Pr) (b : List Ey) (w : World) (hP : Peers w vp L) (hE : Books w vb b) (hl : L.length ≤ 400000) (hbl : b.length ≤ 400000) (hok : ∀ x ∈ L, x.ok) (hyo : ∀ y ∈ b, y.ok) :
    Calls Try.prog 8 #[vp, vb] w fun e w' => ∃ u, e = .returned u ∧ Nets w' u (takR L b) ∧ Below w.heap.size w w' := by
  have HPO : Hid (∀ (pre : List Net) (n : Net) (u : Value) (W : World), pre <+: takL L b → n.ok → Nets W u (putsN [] pre) → Calls Try.prog 16 #[u, .agg #[.bool n.a.v6, .int .u64 n.a.hi, .int .u64 n.a.lo, .int .i64 n.n]] W fun e w' => ∃ v, e = .returned v ∧ Nets w' v (putsN [] (pre ++ [n])) ∧ Below W.heap.size W w') := Lib.hid fun pre n u W hp hn hu => by
    rw [puts_app]
    exact rput_any u (putsN [] pre) n W hu (puts_ok hok hyo hp) hn (puts_few hl hbl hp)
  have KG := Lib.hid fun (a : Adr) (W : World) (ha : a.ok) => rgroupOf_any a W ha
  obtain ⟨A1, c1, rfl, hc1, _, hcell1⟩ := hP
  obtain ⟨A2, c2, rfl, hc2, _, hcell2⟩ := hE
  have HC1 := Lib.hid hcell1
  have HC2 := Lib.hid hcell2
  have HOL := Lib.hid hok
  have HOB := Lib.hid hyo
  have hnil : Hid (Nets (w.alloc (.cells #[] 40)) (.slice (some ⟨w.heap.size, 0, none⟩) 0 0) (putsN [] (outL (L.take 0)))) := Lib.hid (ownM_nets (ownM_lit w (Nat.le_refl _)))
  have HL0 : Hid (Below w.heap.size w (w.alloc (.cells #[] 40))) := Lib.hid ((Below.refl _ _).alloc (Nat.le_refl _) _)
  clear hcell1 hcell2 hok hyo
  go_enter Try.func8, Try.ntmps8
  go_wp2_with fail
  go_loopw [5, 6] (fun vo vi wr => ∃ (i : Nat) (u : Value), u = vo ∧ vi = .int .i64 i ∧ i ≤ L.length ∧ Hid (Nets wr u (putsN [] (outL (L.take i)))) ∧ Hid (Below w.heap.size w wr)) (fun _ vi _ => L.length - (intOf vi).toNat)
  case atStart => exact ⟨0, _, rfl, rfl, Nat.zero_le _, hnil, HL0⟩
  case round =>
    obtain ⟨i, u, rfl, rfl, hi, HN, HL⟩ := hrel
    by_cases hlt : i < L.length
    · have hiz : (i : Int) < (L.length : Int) := by omega
      obtain ⟨bb, o, rfl, hb, hcc⟩ := HC1.out (by omega)
      obtain ⟨x, hx⟩ : ∃ x, x = L[i]! := ⟨_, rfl⟩
      have c0 : wr.cell? ⟨bb, o + i * 10, none⟩ = some (.bool x.e.a.v6) := peer_at HL.out hb hcc hlt (j := 0) (by rw [← hx]; rfl)
      have c1 : wr.cell? ⟨bb, o + i * 10 + 1, none⟩ = some (.int .u64 x.e.a.hi) := peer_at HL.out hb hcc hlt (j := 1) (by rw [← hx]; rfl)
      have c2 : wr.cell? ⟨bb, o + i * 10 + 2, none⟩ = some (.int .u64 x.e.a.lo) := peer_at HL.out hb hcc hlt (j := 2) (by rw [← hx]; rfl)
      have c3 : wr.cell? ⟨bb, o + i * 10 + 3, none⟩ = some (.int .i64 x.e.n) := peer_at HL.out hb hcc hlt (j := 3) (by rw [← hx]; rfl)
      have c4 : wr.cell? ⟨bb, o + i * 10 + 4, none⟩ = some (.bool x.i) := peer_at HL.out hb hcc hlt (j := 4) (by rw [← hx]; rfl)
      have c5 : wr.cell? ⟨bb, o + i * 10 + 5, none⟩ = some (.int .i64 x.t) := peer_at HL.out hb hcc hlt (j := 5) (by rw [← hx]; rfl)
      have c6 : wr.cell? ⟨bb, o + i * 10 + 6, none⟩ = some (.int .i64 x.c.p) := peer_at HL.out hb hcc hlt (j := 6) (by rw [← hx]; rfl)
      have c7 : wr.cell? ⟨bb, o + i * 10 + 7, none⟩ = some (.int .i64 x.c.a) := peer_at HL.out hb hcc hlt (j := 7) (by rw [← hx]; rfl)
      have c8 : wr.cell? ⟨bb, o + i * 10 + 8, none⟩ = some (.int .i64 x.g) := peer_at HL.out hb hcc hlt (j := 8) (by rw [← hx]; rfl)
      have c9 : wr.cell? ⟨bb, o + i * 10 + 9, none⟩ = some (.int .i64 x.k) := peer_at HL.out hb hcc hlt (j := 9) (by rw [← hx]; rfl)
      have HXO : Hid x.e.a.ok := Lib.hid (by rw [hx, getElem!_pos L i hlt]; exact (HOL.out _ (List.getElem_mem _)).1.1)
      have HX := Lib.hid hx
      clear hx hcc hb
      cases hin : x.i
      · rw [hin] at c4
        have HE : Hid (outL (L.take (i + 1)) = outL (L.take i) ++ [groupN x.e.a]) := Lib.hid (by rw [out_out hlt (by rw [← HX.out]; exact hin), HX.out])
        clear hin HX
        go_wp2_with fail
        refine (KG.out _ _ HXO.out).mono ?_; rintro e w2 ⟨rfl, hb2⟩
        have KP := Lib.hid (HPO.out _ _ _ _ (tak_out L b i) (group_ok HXO.out) (HN.out.below hb2))
        have HL2 := Lib.hid (low_trans HL.out hb2)
        clear hb2 HN HL
        go_wp2_with fail
        refine KP.out.mono ?_; rintro e w3 ⟨u3, rfl, hn3, hb3⟩
        have HN3 : Hid (Nets w3 u3 (putsN [] (outL (L.take (i + 1))))) := Lib.hid (by rw [HE.out]; exact hn3)
        have HL3 := Lib.hid (low_trans HL2.out hb3)
        clear hn3 hb3 KP HL2
        go_wp2_with fail
        go_roundw
        case rel => exact ⟨i + 1, _, rfl, by go_num, by omega, HN3, HL3⟩
        case measure => simp [intOf]; omega
      · rw [hin] at c4
        have HE : Hid (outL (L.take (i + 1)) = outL (L.take i)) := Lib.hid (out_in hlt (by rw [← HX.out]; exact hin))
        have HN2 := HN
        rw [← HE.out] at HN2
        clear hin HX HE HN
        go_wp2_with fail
        go_roundw
        case rel => exact ⟨i + 1, _, rfl, by go_num, by omega, HN2, HL⟩
        case measure => simp [intOf]; omega
    · have hiz : ¬ (i : Int) < (L.length : Int) := by omega
      have HN1 : Hid (Nets wr u (putsN [] (outL L ++ flyL (b.take 0)))) := Lib.hid (by
        have h3 := HN.out
        rw [List.take_of_length_le (by omega)] at h3
        simpa [flyL] using h3)
      clear HN
      go_wp2_with fail
      go_loopw [5, 7] (fun vo vi wr => ∃ (i : Nat) (u : Value), u = vo ∧ vi = .int .i64 i ∧ i ≤ b.length ∧ Hid (Nets wr u (putsN [] (outL L ++ flyL (b.take i)))) ∧ Hid (Below w.heap.size w wr)) (fun _ vi _ => b.length - (intOf vi).toNat)
      case atStart => exact ⟨0, _, rfl, rfl, Nat.zero_le _, HN1, HL⟩
      case round =>
        obtain ⟨i, u, rfl, rfl, hi, HN, HL⟩ := hrel
        by_cases hlt : i < b.length
        · have hiz : (i : Int) < (b.length : Int) := by omega
          obtain ⟨bb, o, rfl, hb, hcc⟩ := HC2.out (by omega)
          obtain ⟨x, hx⟩ : ∃ x, x = b[i]! := ⟨_, rfl⟩
          have c0 : wr.cell? ⟨bb, o + i * 7, none⟩ = some (.bool x.e.a.v6) := entry_at HL.out hb hcc hlt (j := 0) (by rw [← hx]; rfl)
          have c1 : wr.cell? ⟨bb, o + i * 7 + 1, none⟩ = some (.int .u64 x.e.a.hi) := entry_at HL.out hb hcc hlt (j := 1) (by rw [← hx]; rfl)
          have c2 : wr.cell? ⟨bb, o + i * 7 + 2, none⟩ = some (.int .u64 x.e.a.lo) := entry_at HL.out hb hcc hlt (j := 2) (by rw [← hx]; rfl)
          have c3 : wr.cell? ⟨bb, o + i * 7 + 3, none⟩ = some (.int .i64 x.e.n) := entry_at HL.out hb hcc hlt (j := 3) (by rw [← hx]; rfl)
          have c4 : wr.cell? ⟨bb, o + i * 7 + 4, none⟩ = some (.int .i64 x.st) := entry_at HL.out hb hcc hlt (j := 4) (by rw [← hx]; rfl)
          have c5 : wr.cell? ⟨bb, o + i * 7 + 5, none⟩ = some (.int .i64 x.f) := entry_at HL.out hb hcc hlt (j := 5) (by rw [← hx]; rfl)
          have c6 : wr.cell? ⟨bb, o + i * 7 + 6, none⟩ = some (.int .i64 x.nx) := entry_at HL.out hb hcc hlt (j := 6) (by rw [← hx]; rfl)
          have HXO : Hid x.e.a.ok := Lib.hid (by rw [hx, getElem!_pos b i hlt]; exact (HOB.out _ (List.getElem_mem _)).he.1)
          have HX := Lib.hid hx
          clear hx hcc hb
          by_cases hin : x.st = 2
          · have HE : Hid (outL L ++ flyL (b.take (i + 1)) = (outL L ++ flyL (b.take i)) ++ [groupN x.e.a]) := Lib.hid (by rw [fly_yes hlt (by rw [← HX.out]; exact hin), HX.out, List.append_assoc])
            rw [hin] at c4
            clear hin HX
            go_wp2_with fail
            refine (KG.out _ _ HXO.out).mono ?_; rintro e w2 ⟨rfl, hb2⟩
            have KP := Lib.hid (HPO.out _ _ _ _ (tak_fly L b i) (group_ok HXO.out) (HN.out.below hb2))
            have HL2 := Lib.hid (low_trans HL.out hb2)
            clear hb2 HN HL
            go_wp2_with fail
            refine KP.out.mono ?_; rintro e w3 ⟨u3, rfl, hn3, hb3⟩
            have HN3 : Hid (Nets w3 u3 (putsN [] (outL L ++ flyL (b.take (i + 1))))) := Lib.hid (by rw [HE.out]; exact hn3)
            have HL3 := Lib.hid (low_trans HL2.out hb3)
            clear hn3 hb3 KP HL2
            go_wp2_with fail
            go_roundw
            case rel => exact ⟨i + 1, _, rfl, by go_num, by omega, HN3, HL3⟩
            case measure => simp [intOf]; omega
          · have hin2 : (x.st == 2) = false := by simpa using hin
            have HE : Hid (flyL (b.take (i + 1)) = flyL (b.take i)) := Lib.hid (fly_no hlt (by rw [← HX.out]; exact hin))
            have HN2 := HN
            rw [← HE.out] at HN2
            clear HX HE HN
            go_wp2_with fail
            go_roundw
            case rel => exact ⟨i + 1, _, rfl, by go_num, by omega, HN2, HL⟩
            case measure => simp [intOf]; omega
        · have hiz : ¬ (i : Int) < (b.length : Int) := by omega
          have HN1 : Hid (Nets wr u (takR L b)) := Lib.hid (by
            have h3 := HN.out
            rw [List.take_of_length_le (by omega)] at h3
            exact h3)
          clear HN
          go_wp2_with fail
          go_ret
          exact ⟨_, rfl, HN1.out, HL.out⟩
end Go.Proofs.Ytbonfmjalgfgaaa.Sp
