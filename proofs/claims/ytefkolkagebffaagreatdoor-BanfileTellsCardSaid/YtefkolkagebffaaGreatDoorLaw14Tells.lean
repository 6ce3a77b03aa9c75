/- The first statement of layer 14, over what it leans on: the text of any list, and the list of any text. -/
import Derived.Test.YtefkolkagebffaaGreatDoorLaw14
namespace Go.Proofs.YtefkolkagebffaaGreatDoor
set_option maxRecDepth 100000
open Go.ChangeShapes Go.WideShapes Go.ChangeAt Go.RowKit
open Dec Words V4 V6 Ad Ci Ba
set_option linter.unusedVariables false
set_option maxHeartbeats 8000000 in
theorem tells14_walk (T : FileApi) (w : World) (v : Value) (l : List Ban) (h : Bans w v l) (hok : ∀ x ∈ l, x.ok) (s : List UInt8) (hs : s.length ≤ 9223372036854775807) (most : Int) (hn : -9223372036854775808 ≤ most ∧ most ≤ 9223372036854775807) (hL : Lens w) :
    Calls Tryz.prog 3 #[v, .string ⟨s.toArray⟩, .int .i64 most] w fun e w' => e = .returned (.bool true) ∧ Below w.heap.size w w' := by
  have HV := Lib.hid h
  have AW := Lib.hid (fun W hW => awake14_any T W hW)
  have HL := Lib.hid hL
  have hsz := size_mk s
  obtain ⟨A, c, rfl, -, -, -⟩ := h
  by_cases hl : 60 < l.length
  · have hd : (60 : Int) < (l.length : Int) := by omega
    go_enter Tryz.func3, Tryz.ntmps3
    go_wp2_with fail
    refine (AW.out _ (HL.out)).mono ?_
    rintro e w1 ⟨rfl, hb⟩
    go_wp2_with fail
    go_ret
    exact ⟨rfl, hb⟩
  · have hd : ¬ (60 : Int) < (l.length : Int) := by omega
    by_cases hl2 : 4000 < s.length
    · have hd2 : (4000 : Int) < (s.length : Int) := by omega
      go_enter Tryz.func3, Tryz.ntmps3
      go_wp2_with fail
      refine (AW.out _ (HL.out)).mono ?_
      rintro e w1 ⟨rfl, hb⟩
      go_wp2_with fail
      go_ret
      exact ⟨rfl, hb⟩
    · have hd2 : ¬ (4000 : Int) < (s.length : Int) := by omega
      have K1 := Lib.hid (T.parse s most w (by omega) hn hL)
      have K2 := Lib.hid (fun W => rparseF_any s most W (by omega))
      have K3 := Lib.hid (fun W h => T.text (.slice A l.length c) l W h (by omega) hok)
      have K4 := Lib.hid (fun W h => rtextF_any (.slice A l.length c) l W h (by omega) hok)
      have hle : (fileP s most).1.length ≤ 4096 := fileP_len s most
      obtain ⟨x, p, q, hx⟩ : ∃ x p q, fileP s most = (x, p, q) := ⟨_, _, _, rfl⟩
      rw [hx] at K1 K2 hle
      simp only at hle
      generalize fileText l = t at K3 K4
      have e1 : (t == t) = true := by simp
      have e2 : (p == p) = true := by simp
      have e3 : (q == q) = true := by simp
      clear hx hs
      go_enter Tryz.func3, Tryz.ntmps3
      go_wp2_with fail
      refine K1.out.mono ?_
      rintro e w1 ⟨u1, rfl, hR1, hb1⟩
      have HR1 := Lib.hid hR1
      obtain ⟨A1, c1, rfl, -, -, -⟩ := hR1
      have HB1 := Lib.hid hb1
      clear hb1 K1
      go_wp2_with fail
      refine (K2.out _).mono ?_
      rintro e w2 ⟨u2, rfl, hR2, hb2⟩
      have HR2 := Lib.hid hR2
      obtain ⟨A2, c2, rfl, -, -, -⟩ := hR2
      have HR1' := Lib.hid (HR1.out.below hb2)
      have HB2 := Lib.hid (low_trans HB1.out hb2)
      clear hb2 K2 HR1
      go_wp2_with fail
      refine (K3.out _ (HV.out.below HB2.out)).mono ?_
      rintro e w3 ⟨rfl, hb3⟩
      have HB3 := Lib.hid (low_trans HB2.out hb3)
      go_wp2_with fail
      refine (K4.out _ (HV.out.below HB3.out)).mono ?_
      rintro e w4 ⟨rfl, hb4⟩
      have HX := Lib.hid (same_bans _ _ x w4 ((HR1'.out.below hb3).below hb4) ((HR2.out.below hb3).below hb4) (by omega))
      have HB4 := Lib.hid (low_trans HB3.out hb4)
      clear hb3 hb4 HR1' HR2
      go_wp2_with fail
      refine HX.out.mono ?_
      rintro e w5 ⟨rfl, hb5⟩
      have HB5 := Lib.hid (low_trans HB4.out hb5)
      clear hb5
      go_wp2_with fail
      refine (AW.out _ (HL.out.below HB5.out)).mono ?_
      rintro e w6 ⟨rfl, hb⟩
      go_wp2_with fail
      go_ret
      exact ⟨rfl, low_trans HB5.out hb⟩
end Go.Proofs.YtefkolkagebffaaGreatDoor
