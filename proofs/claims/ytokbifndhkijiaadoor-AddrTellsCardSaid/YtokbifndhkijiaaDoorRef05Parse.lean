/- Contract of the document's answers for layer 5: an address is read. -/
import Derived.Test.YtokbifndhkijiaaDoorRef05Read
import Derived.Test.YtokbifndhkijiaaDoorIpv6Read
namespace Go.Proofs.YtokbifndhkijiaaDoor.V6
set_option maxRecDepth 100000
open Go.ChangeShapes Go.WideShapes Go.ChangeAt Go.RowKit
open Dec Words V4
set_option linter.unusedVariables false
theorem parts_count (l : List UInt8) : (parts l).length ≤ l.length + 1 := by
  unfold parts; split
  · simp
  · have := List.count_le_length (a := (58 : UInt8)) (l := l); rw [cut_len]; omega
theorem parts_part {l : List UInt8} : ∀ x ∈ parts l, x.length ≤ l.length := by
  unfold parts; split
  · simp
  · exact cut_part_le 58 l
theorem strV_zero : strV [48] = .string ⟨#[48]⟩ := rfl
theorem withZ_map (a b : List (List UInt8)) (k : Nat) : (withZ a b k).map strV = a.map strV ++ List.replicate k (.string ⟨#[48]⟩) ++ b.map strV := by
  unfold withZ
  rw [List.map_append, List.map_append, List.map_replicate, List.append_assoc]; rfl
theorem withZ_len (a b : List (List UInt8)) (k : Nat) : (withZ a b k).length = a.length + k + b.length := by unfold withZ; simp; omega
theorem parse6_full {l : List UInt8} {w w' : World} {e : Ending} {ls : List (List UInt8)} (h : groups l = if fullB ls = true then some (nums (spell ls)) else none) (hp : Full6 ls w e w') : Parse6 l w e w' := by
  obtain ⟨he, hb⟩ := hp
  by_cases hf : fullB ls = true
  · rw [if_pos hf] at h
    refine parse6_yes h rfl rfl ?_ hb
    rw [he]; unfold hiF loF; rw [if_pos hf, if_pos hf, hf]
  · rw [if_neg hf] at h
    have hf2 : fullB ls = false := by simpa using hf
    refine parse6_no h ?_ hb
    rw [he]; unfold hiF loF; rw [hf2]; rfl
set_option maxHeartbeats 8000000 in
theorem rparse6_any (l : List UInt8) (w : World) (hl : l.length ≤ 9223372036854775807) : Calls Tryd.prog 25 #[.string ⟨l.toArray⟩] w (Parse6 l w) := by
  by_cases h60 : 60 < l.length
  · have E := Lib.hid (groups_long h60)
    go_enter Tryd.func25, Tryd.ntmps25
    go_wp2
    go_ret3
    exact parse6_no E.out rfl (Below.refl _ _)
  · have hsz := size_mk l
    have HGap : Hid (∀ W, Calls Tryd.prog 40 #[.string ⟨l.toArray⟩] W fun e w' => e = .returned (.int .i64 (gapI l)) ∧ W = w') := by
      intro W
      have := rgap_any ⟨l.toArray⟩ W (by rw [hsz]; omega)
      rwa [str_back] at this
    have HSZ := Lib.hid hsz
    clear hsz
    cases hg : gap l with
    | none =>
      have E := Lib.hid (groups_whole hg)
      have hgi : gapI l = -1 := by unfold gapI; rw [hg]
      rw [hgi] at HGap
      clear hg hgi
      have hpc := parts_count l
      have HPP := Lib.hid (parts_part (l := l))
      go_enter Tryd.func25, Tryd.ntmps25
      go_wp2_with fail
      refine (HGap.out _).mono ?_
      rintro e w1 ⟨rfl, rfl⟩
      go_wp2_with fail
      refine (rparts_any l _ (by omega)).mono ?_
      rintro e w1 ⟨A, c, rfl, hs, hb1⟩
      have HS := Lib.hid hs
      clear hs
      go_wp2_with fail
      refine (rfull_any (parts l) A c _ HS.out (by omega) (fun x hx => by have := HPP.out x hx; omega)).mono ?_
      rintro e w2 ⟨rfl, hb2⟩
      go_wp2
      go_ret3
      have := parse6_full (l := l) (w := w1) E.out ⟨rfl, hb2⟩
      exact ⟨this.1, low_trans hb1 this.2⟩
    | some p =>
      obtain ⟨b, a⟩ := p
      have hgs := gap_some.1 hg
      have hgi : gapI l = (b.length : Int) := by unfold gapI; rw [hg]
      have hlen : l.length = b.length + (a.length + 2) := by rw [hgs.1]; simp
      have hb1 : l.take b.length = b := by rw [hgs.1]; exact List.take_left' rfl
      have ha1 : l.drop (b.length + 2) = a := by rw [hgs.1, ← List.drop_drop, List.drop_left]; rfl
      have hto : ∀ W, (Instr.slice 9 (.string ⟨l.toArray⟩) none (some (.int .i64 (b.length : Int))) none).run Tryd.prog W = .ok (.string ⟨b.toArray⟩) W := by
        intro W
        rw [run_slice_string_h W 9 _ Tryd.underlying9 .i64 b.length (by omega) (by rw [HSZ.out]; omega), Int.toNat_natCast, slice_to, hb1]
      have hfrom : ∀ W, (Instr.slice 9 (.string ⟨l.toArray⟩) (some (.int .i64 ((b.length : Int) + 2))) none none).run Tryd.prog W = .ok (.string ⟨a.toArray⟩) W := by
        intro W
        rw [show (b.length : Int) + 2 = ((b.length + 2 : Nat) : Int) by omega, run_slice_string_l W 9 _ Tryd.underlying9 .i64 (b.length + 2 : Nat) (by omega) (by rw [HSZ.out]; omega), Int.toNat_natCast, HSZ.out, slice_from l _ _ (Nat.le_refl _), ha1]
      rw [hgi] at HGap
      have HGp := Lib.hid hg
      have hbl : b.length ≤ 60 := by omega
      have hal : a.length ≤ 60 := by omega
      have hpb := parts_count b
      have hpa := parts_count a
      have HPB := Lib.hid (parts_part (l := b))
      have HPA := Lib.hid (parts_part (l := a))
      clear hg hgs hgi hlen hb1 ha1
      have HP1 : Hid (∀ W, Kept w W → Calls Tryd.prog 42 #[.string ⟨b.toArray⟩] W fun e w' => ∃ A c, e = .returned (.slice A (parts b).length c) ∧ Src w' A c (parts b) ∧ Below W.heap.size W w' ∧ Kept w w') :=
        fun W h => (rparts_any b W (by omega)).mono fun e w' ⟨A, c, he, hs, hb⟩ => ⟨A, c, he, hs, hb, low_trans h hb⟩
      have HP2 : Hid (∀ W, Kept w W → Calls Tryd.prog 42 #[.string ⟨a.toArray⟩] W fun e w' => ∃ A c, e = .returned (.slice A (parts a).length c) ∧ Src w' A c (parts a) ∧ Below W.heap.size W w' ∧ Kept w w') :=
        fun W h => (rparts_any a W (by omega)).mono fun e w' ⟨A, c, he, hs, hb⟩ => ⟨A, c, he, hs, hb, low_trans h hb⟩
      have hk0 : Kept w w := Below.refl _ _
      go_enter Tryd.func25, Tryd.ntmps25
      go_wp2_with fail
      refine (HGap.out _).mono ?_
      rintro e w1 ⟨rfl, rfl⟩
      have q1 : IntKind.i64.wrap ((b.length : Int) + 2) = (b.length : Int) + 2 := IntWalk.i64_in _ (by omega)
      go_wp2_with fail
      go_region_held3 (fun w' => Kept w w') (first | assumption | exact low_drewN ‹_› 1)
        (first
          | (go_at_call 42; (with_reducible refine (HP1.out _ ‹_›).mono ?_); rintro e w5 ⟨A1, c1, rfl, hs1, hb1, hkw⟩)
          | (go_at_call 42; (with_reducible refine (HP2.out _ ‹_›).mono ?_); rintro e w6 ⟨A2, c2, rfl, hs2, hb2, hkw⟩))
      clear q1
      have hS1 : Src w6 A1 c1 (parts b) := hs1.below hb2
      have hbel' : Below w.heap.size w w6 := hkw
      obtain ⟨PA, hPA⟩ : ∃ PA, PA = parts b := ⟨_, rfl⟩
      obtain ⟨PB, hPB⟩ : ∃ PB, PB = parts a := ⟨_, rfl⟩
      have HEA := Lib.hid hPA
      have HEB := Lib.hid hPB
      rw [← hPA] at hS1 hpb HPB
      rw [← hPB] at hs2 hpa HPA
      rw [← hPA, ← hPB]
      have HS1 := Lib.hid hS1
      have HS2 := Lib.hid hs2
      clear hPA hPB hS1 hs1 hs2 hb1 hb2 hkw hk0 HP1 HP2 hto hfrom
      have hway : PA.length = 0 ∨ (0 < PA.length ∧ 0 < PB.length) ∨ (0 < PA.length ∧ PB.length = 0) := by omega
      rcases hway with hw | hw | hw
      all_goals (first
        | (have hA0 : PA.length = 0 := hw
           have HA0 := Lib.hid hA0
           have hA1 : ¬ 0 < PA.length := by omega
           clear hA0 hw
           go_wp2)
        | (have hA1 : 0 < PA.length ∧ 0 < PB.length := hw
           have hA2 : 0 < PA.length := hw.1
           have hB1 : 0 < PB.length := hw.2
           have hB0 : ((PB.length : Int) == 0) = false := by rw [beq_eq_false_iff_ne]; omega
           clear hw hA1
           go_wp2)
        | (have hA1 : 0 < PA.length := hw.1
           have hB1 : PB.length = 0 := hw.2
           have hB0 : ((PB.length : Int) == 0) = true := by rw [hB1]; rfl
           have hlt : PA.length - 1 < PA.length := by omega
           obtain ⟨bb, o, rfl, hb, hc⟩ := HS1.out.at_ hlt
           have hxl := HPB.out _ (List.getElem_mem hlt)
           have ecast : ((PA.length - 1 : Nat) : Int) = (PA.length : Int) - 1 := by omega
           have HX := Lib.hid (rparseHex_list PA[PA.length - 1] w6 (by omega))
           have hlen1 : 1 ≤ PA.length := by omega
           have HB1 := Lib.hid hB1
           by_cases hh : hexB PA[PA.length - 1] = false
           · have E : Hid (groups l = none) := Lib.hid (groups_bad HGp.out (by rw [← HEA.out]; exact List.getElem_mem hlt) hh)
             rw [hh] at HX
             clear hh hB1 hw ecast
             go_wp2_with fail
             refine HX.out.mono ?_
             rintro e w7 ⟨rfl, rfl⟩
             go_wp2
             go_ret3
             exact parse6_no E.out rfl hbel'
           rw [show hexB PA[PA.length - 1] = true by simpa using hh] at HX
           clear hh hB1 hw ecast
           go_wp2_with fail
           refine HX.out.mono ?_
           rintro e w7 ⟨rfl, rfl⟩
           go_wp2))
      all_goals obtain ⟨i0, hi, hz0, hz1, hz2⟩ := info_parts Tryd.infoStr
      all_goals (
        go_loopw [10] (fun kv wr => ∃ k : Nat, 1 ≤ k ∧ k ≤ 9 ∧ kv = .int .i64 k ∧ Hid (∀ j, 1 ≤ j → j < k → fullB (withZ PA PB j) = false) ∧ Below w6.heap.size w6 wr) (fun kv _ => 9 - (intOf kv).toNat)
        case atStart => exact ⟨1, by omega, by omega, rfl, Lib.hid (fun j h1 h2 => by omega), Below.refl _ _⟩
        case round =>
          obtain ⟨k, hk1, hk9, rfl, HN, hbel6⟩ := hrel
          by_cases hlt8 : k ≤ 8
          · obtain ⟨W, hW⟩ : ∃ W, W = wr := ⟨_, rfl⟩
            subst hW
            have hSA := Lib.hid (HS1.out.below hbel6)
            have hown0 : (W.alloc (.cells #[] 9)).ownsRow W.heap.size 9 1 (.slice (some ⟨W.heap.size, 0, none⟩) 0 0) 0 [] := World.ownsRow_lit W #[] 0 (Nat.le_refl _) (by decide) rfl
            have HO := Lib.hid hown0
            clear hown0
            go_wp2_with (at_builtin; refine append_src rfl _ _ 47 rfl W.heap.size 9 i0 (.string ByteArray.empty) Tryd.underlying47 hi hz0 hz1 hz2 rfl _ _ _ rfl HO.out _ _ PA rfl ?c1 (by omega) (by simp) ?_)
            case c1 => exact hSA.out.below ((Below.refl _ _).alloc (Nat.le_refl _) _)
            intro v1 w8 hown8 hgrow8
            have hbel8 : Below W.heap.size W w8 := ((Below.refl _ _).alloc (Nat.le_refl _) _).grown hgrow8 (by simp) (fun q hq => by simp [Value.ownBlock] at hq; omega)
            clear hgrow8 HO hSA
            go_wp2
            go_loopw [11, 12] (fun v i wi => ∃ j : Nat, j ≤ k ∧ i = .int .i64 j ∧ wi.ownsRow W.heap.size 9 1 v (PA.length + j) (PA.map strV ++ List.replicate j (.string ⟨#[48]⟩)) ∧ Below W.heap.size W wi) (fun _ i _ => k - (intOf i).toNat)
            case atStart => exact ⟨0, by omega, rfl, by simpa using hown8, hbel8⟩
            case round =>
              obtain ⟨j, hj, rfl, hown, hbel⟩ := hrel
              have hsz := hbel.size
              by_cases hlt : j < k
              · go_wp2_with (at_builtin; refine wpList_append_own _ rfl _ _ 47 rfl W.heap.size 9 i0 (.string ByteArray.empty) 1 16 Tryd.underlying47 hi hz0 hz1 hz2 rfl (by decide) _ _ _ rfl (hown.alloc _) ⟨wr.heap.size, 0, none⟩ 1 1 [.string ⟨#[48]⟩] rfl rfl ?d1 ?d2 ?d3 ?d4 ?d5 ?_)
                case d1 => exact fun j u h => one_cell j h
                case d2 => intro u hu; simp at hu; subst hu; rfl
                case d3 => unfold maxLen; omega
                case d4 => omega
                case d5 => simp; omega
                intro v' w9 hown9 hgrow9 _
                have hb9 := (hbel.alloc hsz (.cells #[.string ⟨#[48]⟩] 9)).grown hgrow9 (by simp; omega) (fun q hq => (hown.lt q hq).1)
                have hown10 : w9.ownsRow W.heap.size 9 1 v' (PA.length + (j + 1)) (PA.map strV ++ List.replicate (j + 1) (.string ⟨#[48]⟩)) := by
                  rw [List.replicate_succ']; exact hown9
                have HO10 := Lib.hid hown10
                clear hgrow9 hown hbel hown9 hown10
                go_wp2
                go_roundw
                case rel => exact ⟨j + 1, by omega, by go_num, HO10.out, hb9⟩
                case measure => simp [intOf]; omega
              · have hjk : j = k := by omega
                subst hjk
                have HO := Lib.hid hown
                have hSB := Lib.hid (HS2.out.below (hbel6.trans (hbel.mono hbel6.size)))
                clear hown
                go_wp2_with (at_builtin; refine append_src rfl _ _ 47 rfl W.heap.size 9 i0 (.string ByteArray.empty) Tryd.underlying47 hi hz0 hz1 hz2 rfl _ _ _ rfl HO.out _ _ PB rfl hSB.out (by omega) hsz ?_)
                intro v1 w9 hown9 hgrow9
                have hb9 := hbel.grown hgrow9 hsz (fun q hq => (HO.out.lt q hq).1)
                have hown11 : w9.ownsRow W.heap.size 9 1 v1 (withZ PA PB j).length ((withZ PA PB j).map strV) := by
                  rw [withZ_map, withZ_len]; simpa [List.append_assoc] using hown9
                obtain ⟨A9, c9, rfl⟩ := own_form hown11
                have hsrc := Lib.hid (Src.own hown11).2
                have HFU := Lib.hid (rfull_any (withZ PA PB j) A9 c9 w9 hsrc.out (by rw [withZ_len]; omega) (fun x hx => by
                  unfold withZ at hx
                  rcases List.mem_append.1 hx with hx | hx
                  · have := HPB.out x hx; omega
                  · rcases List.mem_append.1 hx with hx | hx
                    · rw [List.eq_of_mem_replicate hx]; simp
                    · have := HPA.out x hx; omega))
                unfold Full6 at HFU
                clear hgrow9 hown9 hown11 HO hSB hsrc
                have hb69 := hbel6.trans (hb9.mono hbel6.size)
                cases hf : fullB (withZ PA PB j)
                · have hh : hiF (withZ PA PB j) = 0 ∧ loF (withZ PA PB j) = 0 := by unfold hiF loF; rw [hf]; exact ⟨rfl, rfl⟩
                  rw [hf, hh.1, hh.2] at HFU
                  have HN2 : Hid (∀ i, 1 ≤ i → i < j + 1 → fullB (withZ PA PB i) = false) := fun i h1 h2 => by
                    by_cases e : i = j
                    · subst e; exact hf
                    · exact HN.out i h1 (by omega)
                  clear hh hf
                  go_wp2_with fail
                  refine HFU.out.mono ?_
                  rintro e w10 ⟨rfl, hb10⟩
                  go_wp2
                  go_roundw
                  case rel => exact ⟨j + 1, by omega, by omega, by go_num, HN2, low_trans hb69 hb10⟩
                  case measure => simp [intOf]; omega
                · have E : Hid (groups l = some (nums (spell (withZ PA PB j)))) := by
                    have := groups_gap HGp.out hk1 (by rw [← HEA.out, ← HEB.out]; exact hf)
                    rw [← HEA.out, ← HEB.out] at this; exact this
                  have e1 : hiF (withZ PA PB j) = val ((nums (spell (withZ PA PB j))).take 4) := by unfold hiF; rw [hf, if_pos rfl]
                  have e2 : loF (withZ PA PB j) = val ((nums (spell (withZ PA PB j))).drop 4) := by unfold loF; rw [hf, if_pos rfl]
                  rw [hf] at HFU
                  have E1 := Lib.hid e1
                  have E2 := Lib.hid e2
                  clear hf e1 e2
                  go_wp2_with fail
                  refine HFU.out.mono ?_
                  rintro e w10 ⟨rfl, hb10⟩
                  go_wp2
                  go_ret3
                  exact parse6_yes E.out E1.out E2.out rfl (low_trans hbel' (low_trans hb69 hb10))
          · have E : Hid (groups l = none) := Lib.hid (groups_nogap HGp.out (fun i h1 h2 => by rw [← HEA.out, ← HEB.out]; exact HN.out i h1 (by omega)))
            go_wp2
            go_ret3
            exact parse6_no E.out rfl (low_trans hbel' hbel6))
end Go.Proofs.YtokbifndhkijiaaDoor.V6
