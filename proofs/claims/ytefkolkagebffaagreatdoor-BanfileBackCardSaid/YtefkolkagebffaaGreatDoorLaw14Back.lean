/- The second statement of layer 14, over what it leans on: a right list is read of its text, also the other way round. -/
import Derived.Test.YtefkolkagebffaaGreatDoorLaw14
import Derived.Lib.MinMax
namespace Go.Proofs.YtefkolkagebffaaGreatDoor
set_option maxRecDepth 100000
open Go.ChangeShapes Go.WideShapes Go.ChangeAt Go.RowKit
open Dec Words V4 V6 Ad Ci Ba
set_option linter.unusedVariables false
theorem bans_one {w : World} {b o n c : Nat} {l : List Ban} (h : Bans w (.slice (some ⟨b, o, none⟩) n c) l) {k : Nat} (hk : k < l.length) : Bans w (.slice (some ⟨b, o + k * 5, none⟩) 1 (c - k)) [l[k]] := by
  have h1 := (Recs.rest h (i := k) (by omega)).part (i := 1) (by rw [List.length_drop]; omega)
  rwa [List.drop_eq_getElem_cons hk, List.take_succ_cons, List.take_zero] at h1
theorem turned_snoc (l : List Ban) (k : Nat) (h : k < l.length) : fileText (l.take (k + 1)).reverse = fileText [l[k]] ++ fileText (l.take k).reverse := by
  rw [List.take_succ_eq_append_getElem h, List.reverse_append, List.reverse_singleton, fileText_append]
set_option maxHeartbeats 8000000 in
theorem back14_walk (T : FileApi) (w : World) (v : Value) (l : List Ban) (h : Bans w v l) (hok : ∀ x ∈ l, x.ok) (most : Int) (hn : -9223372036854775808 ≤ most ∧ most ≤ 9223372036854775807) (hL : Lens w) :
    Calls Tryz.prog 4 #[v, .int .i64 most] w fun e w' => e = .returned (.bool true) ∧ Below w.heap.size w w' := by
  have HV := Lib.hid h
  have AW := Lib.hid (fun W hW => awake14_any T W hW)
  have HL := Lib.hid hL
  obtain ⟨A, c, rfl, hc, -, hcell⟩ := h
  have HC := Lib.hid hcell
  clear hcell
  by_cases hl : 60 < l.length
  · have hd : (60 : Int) < (l.length : Int) := by omega
    go_enter Tryz.func4, Tryz.ntmps4
    go_wp2_with fail
    refine (AW.out _ (HL.out)).mono ?_
    rintro e w1 ⟨rfl, hb⟩
    go_wp2_with fail
    go_ret
    exact ⟨rfl, hb⟩
  · have hd : ¬ (60 : Int) < (l.length : Int) := by omega
    have KR := Lib.hid (rright_any (.slice A l.length c) l w HV.out (by omega) hok)
    cases hr : rightL l
    · rw [hr] at KR
      clear hr
      go_enter Tryz.func4, Tryz.ntmps4
      go_wp2_with fail
      refine KR.out.mono ?_
      rintro e w0 ⟨rfl, hb0⟩
      go_wp2_with fail
      refine (AW.out _ (HL.out.below hb0)).mono ?_
      rintro e w1 ⟨rfl, hb⟩
      go_wp2_with fail
      go_ret
      exact ⟨rfl, low_trans hb0 hb⟩
    · rw [hr] at KR
      have hR := (right_iff l).1 hr
      have K1 := Lib.hid (fun W h => T.text (.slice A l.length c) l W h (by omega) hok)
      have htl := fileText_len hok
      have hback := file_back hR hok (by omega) most
      have K2 := Lib.hid (fun W h => T.parse (fileText l) most W (by omega) hn h)
      rw [hback] at K2
      by_cases hm : (l.length : Int) ≤ max most 0
      · have hturn := file_turned hR hok (by omega) hm
        have hnm : ¬ (max most 0 < (l.length : Int)) := by omega
        have htl2 := fileText_len (l := l.reverse) (fun x hx => hok x (List.mem_reverse.1 hx))
        rw [List.length_reverse] at htl2
        have K3 := Lib.hid (fun W h => T.parse (fileText l.reverse) most W (by omega) hn h)
        rw [hturn] at K3
        rw [if_pos hm] at K2
        have KO2 := Lib.hid (fun (k : Nat) (hk : k < l.length) (v : Value) (W : World) (h : Bans W v [l[k]]) => T.text v [l[k]] W h (by simp) (fun x hx => by rcases List.mem_cons.1 hx with rfl | hx; exact hok _ (List.getElem_mem hk); cases hx))
        generalize fileText l = t0 at K1 K2
        clear hr hback hturn hR
        go_enter Tryz.func4, Tryz.ntmps4
        go_wp2_with fail
        refine KR.out.mono ?_
        rintro e w0 ⟨rfl, hb0⟩
        have HB0 := Lib.hid hb0
        clear hb0 KR
        go_wp2_with fail
        refine (K1.out _ (HV.out.below HB0.out)).mono ?_
        rintro e w1 ⟨rfl, hb1⟩
        have HB1 := Lib.hid (low_trans HB0.out hb1)
        clear hb1 K1
        go_wp2_with fail
        refine (K2.out _ (HL.out.below HB1.out)).mono ?_
        rintro e w2 ⟨u2, rfl, hR2, hb2⟩
        have HR2 := Lib.hid hR2
        obtain ⟨A2, c2, rfl, -, -, -⟩ := hR2
        have HB2 := Lib.hid (low_trans HB1.out hb2)
        clear hb2 K2
        go_wp2_with fail
        go_loopw [8, 9] (fun ss si wr => ∃ (k : Nat) (S : List UInt8), k ≤ l.length ∧ si = .int .i64 k ∧ ss = .string ⟨S.toArray⟩ ∧ Hid (fileText (l.take k).reverse = S) ∧ Stays w2 wr) (fun _ si _ => l.length - (intOf si).toNat)
        case atStart => exact ⟨0, [], Nat.zero_le _, rfl, rfl, Lib.hid rfl, Below.refl _ _⟩
        case round =>
          obtain ⟨k, S, hk, rfl, rfl, HS, hst⟩ := hrel
          have HB3 := Lib.hid (low_trans HB2.out hst)
          have HST := Lib.hid hst
          clear hst
          by_cases hlt : k < l.length
          · obtain ⟨b, o, rfl, hb, -⟩ := HC.out (by omega)
            have KT := Lib.hid (KO2.out k hlt _ wr (bans_one (HV.out.below HB3.out) hlt))
            have HS2 := Lib.hid (turned_snoc l k hlt)
            rw [HS.out] at HS2
            have hS1 : S.length ≤ 6000 := by
              have h1 := fileText_len (l := (l.take k).reverse) (fun x hx => hok x (List.mem_of_mem_take (List.mem_reverse.1 hx)))
              rw [HS.out, List.length_reverse, List.length_take] at h1
              omega
            have hS2 : (fileText [l[k]]).length ≤ 93 := by
              have h1 := fileText_len (l := [l[k]]) (fun x hx => by rcases List.mem_cons.1 hx with rfl | hx; exact hok _ (List.getElem_mem hlt); cases hx)
              simpa using h1
            generalize fileText [l[k]] = q at KT HS2 hS2
            have g1 := fun W => En.add_is (a := q) (b := S) (c := q ++ S) rfl (by simp; omega) W
            have h1 : (k : Int) < (l.length : Int) := by omega
            have h2 : (k : Int) + 1 ≤ (c : Int) := by omega
            have h3 : ((k : Int) + 1).toNat = k + 1 := by omega
            have h4 : (0 : Int) ≤ (k : Int) + 1 := by omega
            have h5 : IntKind.i64.wrap ((k : Int) + 1) = (k : Int) + 1 := by rw [IntKind.wrap_i64]; omega
            have h6 : ¬ (c = k) := by omega
            have h7 : k + 1 - k = 1 := by omega
            have h8 : (k : Int) ≤ (k : Int) + 1 := by omega
            go_wp2_with fail
            refine KT.out.mono ?_
            rintro e w3 ⟨rfl, hb3⟩
            have HST3 := Lib.hid (low_trans HST.out hb3)
            clear hb3 KT
            go_wp2_with fail
            go_roundw
            case rel => exact ⟨k + 1, q ++ S, by omega, by go_num, rfl, HS2, HST3.out⟩
            case measure => simp [intOf]; omega
          · have hlt2 : ¬ (k : Int) < (l.length : Int) := by omega
            have E : S = fileText l.reverse := by rw [← HS.out, List.take_of_length_le (by omega)]
            rw [← E] at K3
            clear E
            go_wp2_with fail
            refine (K3.out _ (HL.out.below HB3.out)).mono ?_
            rintro e w3 ⟨u3, rfl, hR3, hb3⟩
            have HR3 := Lib.hid hR3
            obtain ⟨A3, c3, rfl, -, -, -⟩ := hR3
            have HB4 := Lib.hid (low_trans HB3.out hb3)
            have HX := Lib.hid (same_bans (.slice A2 l.length c2) (.slice A l.length c) l w3 (HR2.out.below (low_trans HST.out hb3)) (HV.out.below HB4.out) (by omega))
            have HY := Lib.hid (fun W (hW : Below w3.heap.size w3 W) => same_bans (.slice A3 l.length c3) (.slice A l.length c) l W (HR3.out.below hW) (HV.out.below (low_trans HB4.out hW)) (by omega))
            clear hb3 K3
            go_wp2_with fail
            refine HX.out.mono ?_
            rintro e w4 ⟨rfl, hb4⟩
            have HB5 := Lib.hid (low_trans HB4.out hb4)
            have KY := Lib.hid (HY.out _ hb4)
            clear hb4 HX HY
            go_wp2_with fail
            refine KY.out.mono ?_
            rintro e w5 ⟨rfl, hb5⟩
            have HB6 := Lib.hid (low_trans HB5.out hb5)
            clear hb5 KY
            go_wp2_with fail
            refine (AW.out _ (HL.out.below HB6.out)).mono ?_
            rintro e w6 ⟨rfl, hb⟩
            go_wp2_with fail
            go_ret
            exact ⟨rfl, low_trans HB6.out hb⟩
      · have hnm : max most 0 < (l.length : Int) := by omega
        rw [if_neg hm] at K2
        have hmb : 0 ≤ max most 0 := by omega
        have h1 : IntKind.i64.wrap (max most 0 + 1) = max most 0 + 1 := by rw [IntKind.wrap_i64]; omega
        generalize fileText l = t0 at K1 K2
        clear hr hback hR
        have e1 : (max most 0 + 1 == max most 0 + 1) = true := by simp
        go_enter Tryz.func4, Tryz.ntmps4
        go_wp2_with fail
        refine KR.out.mono ?_
        rintro e w0 ⟨rfl, hb0⟩
        have HB0 := Lib.hid hb0
        clear hb0 KR
        go_wp2_with fail
        refine (K1.out _ (HV.out.below HB0.out)).mono ?_
        rintro e w1 ⟨rfl, hb1⟩
        have HB1 := Lib.hid (low_trans HB0.out hb1)
        clear hb1 K1
        go_wp2_with fail
        refine (K2.out _ (HL.out.below HB1.out)).mono ?_
        rintro e w2 ⟨u2, rfl, hR2, hb2⟩
        obtain ⟨A2, c2, rfl, -, -, -⟩ := hR2
        have HB2 := Lib.hid (low_trans HB1.out hb2)
        clear hb2 K2
        go_wp2_with fail
        refine (AW.out _ (HL.out.below HB2.out)).mono ?_
        rintro e w3 ⟨rfl, hb⟩
        go_wp2_with fail
        go_ret
        exact ⟨rfl, low_trans HB2.out hb⟩
end Go.Proofs.YtefkolkagebffaaGreatDoor
