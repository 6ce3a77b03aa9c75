/- Contract of package ipv6: an address's text. -/
import Derived.Test.YtokbifndhkijiaaDoorIpv6Runs
import Derived.Deep.MidRow
import Derived.Deep.RegionHeld3
namespace Go.Proofs.YtokbifndhkijiaaDoor.V6
set_option maxRecDepth 100000
open Go.ChangeShapes Go.WideShapes Go.ChangeAt Go.RowKit
open Dec Words V4
set_option linter.unusedVariables false
theorem zeros_arr (gs : List Int) (cs : Array Value) (hcs : cs = (gs.map intV).toArray) (w : World) (h8 : gs.length = 8) (h : ∀ g ∈ gs, 0 ≤ g ∧ g ≤ 65535) : Calls Tryd.prog 46 #[.agg cs] w fun e w' => e = .returned (.tuple #[.int .i64 (from6 gs : Nat), .int .i64 (to6 gs : Nat)]) ∧ Below w.heap.size w w' := by
  rw [hcs]; exact zeros_any gs w h8 h
theorem slice8 (g : Nat) (W : World) : (Instr.sliceAt 65 (.pointer (some ⟨g, 0, none⟩)) none none none).run Tryd.prog W = .ok (.slice (some ⟨g, 0, none⟩) 8 8) W := by
  have e1 : Tryd.prog.arrayLen 65 = 8 := by kernel_rfl
  have e2 : Tryd.prog.elem 65 = 9 := by kernel_rfl
  have e3 : (sizeOf 9).run Tryd.prog W = .ok 1 W := by kernel_rfl
  rw [run_sliceAt_array_all W 65 _ (by rw [e1, e2]; kernel_rfl), e1, e2, e3]
  rfl
theorem slice8h (g k : Nat) (hk : k ≤ 8) (W : World) : (Instr.sliceAt 65 (.pointer (some ⟨g, 0, none⟩)) none (some (.int .i64 (k : Int))) none).run Tryd.prog W = .ok (.slice (some ⟨g, 0, none⟩) k 8) W := by
  have e1 : Tryd.prog.arrayLen 65 = 8 := by kernel_rfl
  have e2 : Tryd.prog.elem 65 = 9 := by kernel_rfl
  have e3 : (sizeOf 9).run Tryd.prog W = .ok 1 W := by kernel_rfl
  rw [run_sliceAt_array_h W 65 _ (by rw [e1, e2]; kernel_rfl) .i64 k (by omega) (by rw [e1]; omega), e1, e2, e3]
  simp [Result.andThen, slicedAt, Addr.add]
/-- Where the rest of a row begins. -/
def restA (g k : Nat) : Option Addr := if k = 8 then some ⟨g, 0, none⟩ else some ⟨g, k, none⟩
theorem slice8l (g k : Nat) (hk : k ≤ 8) (W : World) : (Instr.sliceAt 65 (.pointer (some ⟨g, 0, none⟩)) (some (.int .i64 (k : Int))) none none).run Tryd.prog W = .ok (.slice (restA g k) (8 - k) (8 - k)) W := by
  have e1 : Tryd.prog.arrayLen 65 = 8 := by kernel_rfl
  have e2 : Tryd.prog.elem 65 = 9 := by kernel_rfl
  have e3 : (sizeOf 9).run Tryd.prog W = .ok 1 W := by kernel_rfl
  rw [run_sliceAt_array_l W 65 _ (by rw [e1, e2]; kernel_rfl) .i64 k (by omega) (by rw [e1]; omega), e1, e2, e3]
  simp only [Result.andThen, slicedAt, Int.toNat_natCast, Nat.mul_one]
  unfold restA
  by_cases h : k = 8
  · rw [if_pos h.symm, if_pos h]
  · rw [if_neg (by omega), if_neg h]
    congr 3
    unfold Addr.add; split <;> simp_all
/-- The texts of the groups that are written so far. -/
def cells8 (gs : List Int) (k : Nat) (i : Nat) : Value := if i < k then .string ⟨((hexes gs).getD i []).toArray⟩ else .string ⟨#[]⟩
theorem empty8 (gs : List Int) (i : Nat) (hi : i < 8) : (#[Value.string ⟨#[]⟩, .string ⟨#[]⟩, .string ⟨#[]⟩, .string ⟨#[]⟩, .string ⟨#[]⟩, .string ⟨#[]⟩, .string ⟨#[]⟩, .string ⟨#[]⟩] : Array Value)[i]? = some (cells8 gs 0 i) := by
  have e : (#[Value.string ⟨#[]⟩, .string ⟨#[]⟩, .string ⟨#[]⟩, .string ⟨#[]⟩, .string ⟨#[]⟩, .string ⟨#[]⟩, .string ⟨#[]⟩, .string ⟨#[]⟩] : Array Value) = Array.replicate 8 (.string ⟨#[]⟩) := rfl
  rw [e, Array.getElem?_replicate, if_pos hi]
  unfold cells8
  rw [if_neg (by omega)]
theorem cells8_next (gs : List Int) (k : Nat) (h : k < gs.length) (i : Nat) : (if i = k then Value.string ⟨(hex gs[k]).toArray⟩ else cells8 gs k i) = cells8 gs (k + 1) i := by
  unfold cells8
  by_cases e : i = k
  · subst e
    rw [if_pos rfl, if_pos (by omega)]
    unfold hexes
    rw [List.getD, List.getElem?_map, List.getElem?_eq_getElem h]; rfl
  · rw [if_neg e]
    by_cases e2 : i < k
    · rw [if_pos e2, if_pos (by omega)]
    · rw [if_neg e2, if_neg (by omega)]
theorem txts8 {w : World} {g : Nat} {gs : List Int} (h8 : gs.length = 8) (h : w.rowIs g 65 8 (cells8 gs 8)) : Txts w (.slice (some ⟨g, 0, none⟩) 8 8) (hexes gs) := by
  have hl : (hexes gs).length = 8 := by unfold hexes; simpa using h8
  refine ⟨some ⟨g, 0, none⟩, 8, by rw [hl], by omega, fun _ => ⟨g, 0, rfl, h.lt, fun j hj => ?_⟩⟩
  rw [Nat.zero_add, h.cell (by omega)]
  unfold cells8
  rw [if_pos (by omega), List.getD, List.getElem?_eq_getElem hj]; rfl
theorem txts8h {w : World} {g k : Nat} {gs : List Int} (h8 : gs.length = 8) (hk : k ≤ 8) (h : w.rowIs g 65 8 (cells8 gs 8)) : Txts w (.slice (some ⟨g, 0, none⟩) k 8) ((hexes gs).take k) := by
  have hl : (hexes gs).length = 8 := by unfold hexes; simpa using h8
  have hl2 : ((hexes gs).take k).length = k := by rw [List.length_take]; omega
  refine ⟨some ⟨g, 0, none⟩, 8, by rw [hl2], by omega, fun _ => ⟨g, 0, rfl, h.lt, fun j hj => ?_⟩⟩
  rw [Nat.zero_add, h.cell (by omega)]
  unfold cells8
  rw [if_pos (by omega), List.getD, List.getElem?_eq_getElem (by omega), List.getElem_take]; rfl
theorem txts8l {w : World} {g k : Nat} {gs : List Int} (h8 : gs.length = 8) (hk : k ≤ 8) (h : w.rowIs g 65 8 (cells8 gs 8)) : Txts w (.slice (restA g k) (8 - k) (8 - k)) ((hexes gs).drop k) := by
  have hl : (hexes gs).length = 8 := by unfold hexes; simpa using h8
  have hl2 : ((hexes gs).drop k).length = 8 - k := by rw [List.length_drop]; omega
  refine ⟨restA g k, 8 - k, by rw [hl2], by omega, fun hp => ⟨g, k, by unfold restA; rw [if_neg (by omega)], h.lt, fun j hj => ?_⟩⟩
  rw [h.cell (by omega)]
  unfold cells8
  rw [if_pos (by omega), List.getD, List.getElem?_eq_getElem (by omega), List.getElem_drop]; rfl
theorem join_hexes (gs : List Int) : ∀ ps : List (List UInt8), (∀ x ∈ ps, x ∈ hexes gs) → ps.length ≤ 8 → ps.length ≤ 140737488355328 ∧ (glue 58 ps).length ≤ 140737488355328 := by
  intro ps h hl
  have := glue_sum (c := 58) (fun x hx => hexes_len4 gs x (h x hx))
  omega
theorem size_mk (l : List UInt8) : (⟨l.toArray⟩ : ByteArray).size = l.length := by rw [← len_size, str_back]
/-- What is left of a world. -/
def Kept (W w : World) : Prop := Below W.heap.size W w
theorem cat_gap (a b : List UInt8) : Value.string (⟨a.toArray⟩ ++ ⟨#[58, 58]⟩ ++ ⟨b.toArray⟩) = .string ⟨(a ++ 58 :: 58 :: b).toArray⟩ := by
  show Value.string (⟨a.toArray⟩ ++ ⟨[58, 58].toArray⟩ ++ ⟨b.toArray⟩) = _
  simp only [ByteArray.mk_append_mk]
  simp
set_option maxHeartbeats 4000000 in
theorem text6_any (hi lo : Nat) (w : World) (h1 : hi < 18446744073709551616) (h2 : lo < 18446744073709551616) :
    Calls Tryd.prog 26 #[.int .u64 hi, .int .u64 lo] w fun e w' => e = .returned (.string ⟨(text6 hi lo).toArray⟩) ∧ Below w.heap.size w w' := by
  obtain ⟨gs, hgs⟩ : ∃ gs, gs = gr hi lo := ⟨_, rfl⟩
  have h8 : gs.length = 8 := by rw [hgs]; rfl
  have hbd : ∀ x ∈ gs, 0 ≤ x ∧ x ≤ 65535 := by rw [hgs]; exact gr_bd hi lo
  have HAp := Lib.hid (apart_any hi lo w h1 h2)
  have ET : Hid (text6 hi lo = textG gs) := Lib.hid (by rw [hgs]; rfl)
  rw [← hgs] at HAp
  clear hgs
  obtain ⟨a0, a1, a2, a3, a4, a5, a6, a7, e⟩ : ∃ a0 a1 a2 a3 a4 a5 a6 a7, gs = [a0, a1, a2, a3, a4, a5, a6, a7] := by
    match gs, h8 with
    | [a0, a1, a2, a3, a4, a5, a6, a7], _ => exact ⟨_, _, _, _, _, _, _, _, rfl⟩
  have ecs : (gs.map intV).toArray = #[.int .i64 a0, .int .i64 a1, .int .i64 a2, .int .i64 a3, .int .i64 a4, .int .i64 a5, .int .i64 a6, .int .i64 a7] := by rw [e]; rfl
  rw [ecs] at HAp
  have EC := Lib.hid ecs.symm
  have H8 := Lib.hid h8
  have HB := Lib.hid hbd
  have hr6 := run6 h8
  have hr1 := hr6.1
  have hr2 := hr6.2.1
  clear e ecs h8 hbd hr6
  go_enter Tryd.func26, Tryd.ntmps26
  go_wp2_with fail
  refine HAp.out.mono ?_
  rintro e w1 ⟨rfl, hb1⟩
  go_wp2
  go_loopw [15] (fun i wr => ∃ k : Nat, k ≤ 8 ∧ i = .int .i64 k ∧ wr.rowIs (w1.heap.size + 1) 65 8 (cells8 gs k) ∧ Below (w1.heap.size + 1) (w1.alloc (.cells #[.int .i64 a0, .int .i64 a1, .int .i64 a2, .int .i64 a3, .int .i64 a4, .int .i64 a5, .int .i64 a6, .int .i64 a7] 58)) wr) (fun i _ => 8 - (intOf i).toNat)
  case atStart => exact ⟨0, by omega, rfl, by
    have := World.rowIs_alloc (w1.alloc (.cells #[.int .i64 a0, .int .i64 a1, .int .i64 a2, .int .i64 a3, .int .i64 a4, .int .i64 a5, .int .i64 a6, .int .i64 a7] 58)) _ 65 (cells8 gs 0) (fun i hi => empty8 gs i hi)
    simpa using this, (Below.refl _ _).alloc (by simp) _⟩
  case round =>
    obtain ⟨k, hk, rfl, hrow, hbel⟩ := hrel
    have hsz := hbel.size
    by_cases hlt : k < 8
    · have hlt2 : k < gs.length := by rw [H8.out]; exact hlt
      have hidx := gs_index gs _ EC.out k hlt2 H8.out
      have hg := HB.out gs[k] (List.getElem_mem hlt2)
      go_wp2_with fail
      refine (hex_any gs[k] _ (by omega) (by omega)).mono ?_
      rintro e w2 ⟨rfl, hb2⟩
      have hrow2 := hrow.of_block (hb2.block _ hrow.lt)
      have hcell := hrow2.cell (i := k) (by omega)
      have hfro := hrow2.frozen k
      have hs := (hrow2.set k (.string ⟨(hex gs[k]).toArray⟩)).congr (g := cells8 gs (k + 1)) (fun i _ => cells8_next gs k hlt2 i)
      have hb3 := (hbel.trans (hb2.mono (Nat.le_of_lt hrow.lt))).setCell (p := ⟨w1.heap.size + 1, k, none⟩) (Nat.le_refl _) (.string ⟨(hex gs[k]).toArray⟩)
      go_wp2
      go_roundw
      case rel => exact ⟨k + 1, by omega, by go_num, hs, hb3⟩
      case measure => simp [intOf]; omega
    · have hk8 : k = 8 := by omega
      subst hk8
      have hld : wr.rangeAt w1.heap.size 0 [.int .i64 a0, .int .i64 a1, .int .i64 a2, .int .i64 a3, .int .i64 a4, .int .i64 a5, .int .i64 a6, .int .i64 a7] := by
        intro j v hj
        rw [hbel.cell (p := ⟨w1.heap.size, 0 + j, none⟩) (by simp), cell_of_row _ _ _ _ _ _ (heap_alloc_new w1 _), Nat.zero_add, ← Array.getElem?_toList]
        exact hj
      have HLD := Lib.hid hld
      clear hld
      go_wp2_with (refine wpList_load_mid rfl 58 _ rfl w1.heap.size 0 rfl _ _ HLD.out Tryd.underlying58 rfl (by kernel_rfl) ?_)
      refine (zeros_arr gs _ EC.out wr H8.out HB.out).mono ?_
      rintro e w2 ⟨rfl, hb2⟩
      have hrow2 := hrow.of_block (hb2.block _ hrow.lt)
      have hb1' : Below w.heap.size w (w1.alloc (.cells #[.int .i64 a0, .int .i64 a1, .int .i64 a2, .int .i64 a3, .int .i64 a4, .int .i64 a5, .int .i64 a6, .int .i64 a7] 58)) := hb1.alloc hb1.size _
      have hb3 : Below w.heap.size w w2 := hb1'.trans ((hbel.trans (hb2.mono (Nat.le_of_lt hrow.lt))).mono (by have := hb1.size; omega))
      by_cases hr : from6 gs = to6 gs
      · have hq : ((from6 gs : Int) == (to6 gs : Int)) = true := by rw [hr]; simp
        have E : Hid (text6 hi lo = glue 58 (hexes gs)) := Lib.hid (by rw [ET.out]; unfold textG; rw [if_pos hr])
        have hsl := slice8 (w1.heap.size + 1) w2
        have HT := Lib.hid (txts8 H8.out hrow2)
        have hj := join_hexes gs (hexes gs) (fun _ h => h) (by unfold hexes; rw [List.length_map, H8.out]; exact Nat.le_refl _)
        clear hr
        go_wp2_with fail
        refine (join_any _ (hexes gs) 58 _ HT.out hj.1 hj.2).mono ?_
        rintro e w3 ⟨rfl, hb4⟩
        go_wp2
        go_ret
        exact ⟨ret_s E.out.symm, low_trans hb3 hb4⟩
      · have hq : ((from6 gs : Int) == (to6 gs : Int)) = false := by rw [beq_eq_false_iff_ne]; omega
        have E : Hid (text6 hi lo = glue 58 ((hexes gs).take (from6 gs)) ++ 58 :: 58 :: glue 58 ((hexes gs).drop (to6 gs))) := Lib.hid (by rw [ET.out]; unfold textG; rw [if_neg hr])
        have hsh := fun W => slice8h (w1.heap.size + 1) (from6 gs) (by omega) W
        have hsl := fun W => slice8l (w1.heap.size + 1) (to6 gs) hr2 W
        have HT1 := Lib.hid (txts8h H8.out (by omega : from6 gs ≤ 8) hrow2)
        have HT2 := Lib.hid (txts8l H8.out hr2 hrow2)
        have hl : (hexes gs).length = 8 := by unfold hexes; rw [List.length_map]; exact H8.out
        have hj1 := join_hexes gs ((hexes gs).take (from6 gs)) (fun _ h => List.mem_of_mem_take h) (by rw [List.length_take]; omega)
        have hj2 := join_hexes gs ((hexes gs).drop (to6 gs)) (fun _ h => List.mem_of_mem_drop h) (by rw [List.length_drop]; omega)
        have HJ1 : Hid (∀ W, Kept w2 W → Calls Tryd.prog 47 #[.slice (some ⟨w1.heap.size + 1, 0, none⟩) (from6 gs) 8, .int .u8 58] W fun e w' => e = .returned (.string ⟨(glue 58 ((hexes gs).take (from6 gs))).toArray⟩) ∧ Kept w2 w') :=
          fun W h => (join_any _ _ 58 W (HT1.out.below h) hj1.1 hj1.2).mono fun e w' ⟨he, hb⟩ => ⟨he, low_trans h hb⟩
        have HJ2 : Hid (∀ W, Kept w2 W → Calls Tryd.prog 47 #[.slice (restA (w1.heap.size + 1) (to6 gs)) (8 - to6 gs) (8 - to6 gs), .int .u8 58] W fun e w' => e = .returned (.string ⟨(glue 58 ((hexes gs).drop (to6 gs))).toArray⟩) ∧ Kept w2 w') :=
          fun W h => (join_any _ _ 58 W (HT2.out.below h) hj2.1 hj2.2).mono fun e w' ⟨he, hb⟩ => ⟨he, low_trans h hb⟩
        have hk0 : Kept w2 w2 := Below.refl _ _
        have hz1 := hj1.2
        have hz2 := hj2.2
        have hc1 : ∀ W, (Op.stringOp .add (⟨(glue 58 ((hexes gs).take (from6 gs))).toArray⟩ : ByteArray) ⟨#[58, 58]⟩).run Tryd.prog W = .ok (.string (⟨(glue 58 ((hexes gs).take (from6 gs))).toArray⟩ ++ ⟨#[58, 58]⟩)) W :=
          fun W => run_string_add_sum W _ _ (by rw [size_mk]; show _ + 2 ≤ _; omega)
        have hc2 : ∀ W, (Op.stringOp .add ((⟨(glue 58 ((hexes gs).take (from6 gs))).toArray⟩ : ByteArray) ++ ⟨#[58, 58]⟩) ⟨(glue 58 ((hexes gs).drop (to6 gs))).toArray⟩).run Tryd.prog W = .ok (.string (⟨(glue 58 ((hexes gs).take (from6 gs))).toArray⟩ ++ ⟨#[58, 58]⟩ ++ ⟨(glue 58 ((hexes gs).drop (to6 gs))).toArray⟩)) W :=
          fun W => run_string_add_sum W _ _ (by
            have e1 := size_mk (glue 58 ((hexes gs).take (from6 gs)))
            have e2 := size_mk (glue 58 ((hexes gs).drop (to6 gs)))
            have e3 : (⟨#[58, 58]⟩ : ByteArray).size = 2 := rfl
            rw [ByteArray.size_append]; omega)
        clear hr hl hj1 hj2 HT1 HT2 hrow hrow2 hbel hb2 hb1' HLD
        go_wp2_with fail
        go_region_held3 (fun w' => Kept w2 w') (first | assumption | exact low_drewN ‹_› 1)
          (first
            | (go_at_call 47; refine (HJ1.out _ ‹_›).mono ?_; rintro e w' ⟨rfl, hkw⟩)
            | (go_at_call 47; refine (HJ2.out _ ‹_›).mono ?_; rintro e w' ⟨rfl, hkw⟩))
        all_goals go_wp2
        all_goals go_ret
        all_goals exact ⟨by rw [E.out]; exact congrArg Ending.returned (cat_gap _ _), low_trans hb3 ‹Kept w2 _›⟩
end Go.Proofs.YtokbifndhkijiaaDoor.V6
