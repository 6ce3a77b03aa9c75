/- Contract of package ipv6: an address is read. -/
import Derived.Test.YtokbifndhkijiaaDoorIpv6Write
import Derived.Test.YtokbifndhkijiaaDoorIpv4
import Derived.Laws.CopyOwn
import Derived.Lib.LastIndexByte
import Derived.IntWalk
namespace Go.Proofs.YtokbifndhkijiaaDoor.V6
set_option maxRecDepth 100000
open Go.ChangeShapes Go.WideShapes Go.ChangeAt Go.RowKit
open Dec Words V4
set_option linter.unusedVariables false
/-- The library's variable that its search looks at is there. -/
def Lens (w : World) : Prop := ∃ m : Int, w.cell? ⟨Tryd.lays145_ren.g 1, 0, none⟩ = some (.int .i64 m)
theorem Lens.below {w w' : World} (h : Lens w) (hb : Below w.heap.size w w') : Lens w' := by
  obtain ⟨m, hm⟩ := h
  exact ⟨m, (hb.cell (p := ⟨Tryd.lays145_ren.g 1, 0, none⟩) (World.block_lt_of_cell? _ _ hm)).trans hm⟩
theorem Lens.start {w : World} (h : w.ShapedOpen Tryd.prog) : Lens w := Tryd.laysM145.s1_3 w h
/-! Where the last colon stands. -/
theorem last_at (l : List UInt8) : Lib.lastIndexByte ⟨l.toArray⟩ 58 + 1 = ((l.length - (lastP l).length : Nat) : Int) := by
  obtain ⟨ps, e1, h1, h2⟩ := last_split l
  have hs : (⟨l.toArray⟩ : ByteArray).size = l.length := size_mk l
  have hat : ∀ j (h : j < l.length), (⟨l.toArray⟩ : ByteArray).data[j]! = l[j] := by
    intro j h
    simp [h]
  have hle := lastP_le l
  rcases Lib.lastIndexByte_spec ⟨l.toArray⟩ 58 with ⟨e, hn⟩ | ⟨i, hi, e, hc, hn⟩
  · rw [e]
    rcases h2 with ⟨_, h2⟩ | ⟨hp, h2⟩
    · have := congrArg List.length h2; omega
    · exfalso
      have hk : (glue 58 ps).length < l.length := by have := congrArg List.length h2; simp at this; omega
      refine hn (glue 58 ps).length (by omega) ?_
      rw [hat _ hk]
      have h5 : l[(glue 58 ps).length]? = some 58 := by rw [h2, List.getElem?_append_right (Nat.le_refl _)]; simp
      rw [List.getElem?_eq_getElem hk] at h5
      simp at h5; rw [h5]; rfl
  · rw [e]
    rw [hs] at hi hn
    rw [hat i hi] at hc
    have hci : l[i] = 58 := by
      rw [← UInt8.toNat_inj]; have : (58 : UInt8).toNat = 58 := rfl
      omega
    rcases h2 with ⟨_, h2⟩ | ⟨hp, h2⟩
    · exfalso; apply h1; rw [← h2, ← hci]; exact List.getElem_mem hi
    · have hlen := congrArg List.length h2
      simp at hlen
      have hk : (glue 58 ps).length < l.length := by omega
      have h5 : l[(glue 58 ps).length]? = some 58 := by rw [h2, List.getElem?_append_right (Nat.le_refl _)]; simp
      rw [List.getElem?_eq_getElem hk] at h5
      simp at h5
      have h6 : ¬ i < (glue 58 ps).length := by
        intro hlt
        refine hn _ hlt hk ?_
        rw [hat _ hk, h5]; rfl
      have h7 : ¬ (glue 58 ps).length < i := by
        intro hlt
        apply h1
        have h8 : l[i]? = some 58 := by rw [List.getElem?_eq_getElem hi, hci]
        rw [h2, List.getElem?_append_right (by omega)] at h8
        obtain ⟨k, hk⟩ : ∃ k, i - (glue 58 ps).length = k + 1 := ⟨i - (glue 58 ps).length - 1, by omega⟩
        rw [hk, List.getElem?_cons_succ] at h8
        exact List.mem_of_getElem? h8
      omega
theorem drop_last (l : List UInt8) : l.drop (l.length - (lastP l).length) = lastP l := by
  obtain ⟨ps, e1, h1, h2⟩ := last_split l
  rcases h2 with ⟨_, h2⟩ | ⟨hp, h2⟩
  · have := congrArg List.length h2
    rw [show l.length - (lastP l).length = 0 by omega]; exact h2
  · have h3 := congrArg List.length h2
    have e : l.length - (lastP l).length = (glue 58 ps).length + 1 := by simp at h3; omega
    rw [e]
    conv => lhs; rw [h2]
    rw [List.drop_append, List.drop_of_length_le (by omega)]
    simp
theorem and16u (m : Nat) (h : m < 4294967296) : bits .and .u32 (m : Int) 65535 = ((m % 65536 : Nat) : Int) := by
  have e := u32_and_nat m 65535 h (by omega)
  have e2 : m &&& 65535 = m % 65536 := Nat.and_two_pow_sub_one_eq_mod m 16
  rw [show ((65535 : Nat) : Int) = 65535 from rfl] at e
  rw [e, e2]
theorem slice_to (l : List UInt8) (k : Nat) : (⟨l.toArray⟩ : ByteArray).extract 0 k = ⟨(l.take k).toArray⟩ := by
  rw [← str_same ((⟨l.toArray⟩ : ByteArray).extract 0 k), Lib.extract_data, str_back]; simp
theorem slice_from (l : List UInt8) (k n : Nat) (h : l.length ≤ n) : (⟨l.toArray⟩ : ByteArray).extract k n = ⟨(l.drop k).toArray⟩ := by
  rw [← str_same ((⟨l.toArray⟩ : ByteArray).extract k n), Lib.extract_data, str_back, ← List.drop_take, List.take_of_length_le h]
theorem spelled_len (l : List UInt8) : (spelled l).length ≤ l.length + 9 := by
  unfold spelled
  have h1 := hex_len ((num4 (lastP l) / 65536 : Nat) : Int)
  have h2 := hex_len ((num4 (lastP l) % 65536 : Nat) : Int)
  split
  · simp [hi4, lo4] at *; omega
  · omega
set_option maxHeartbeats 4000000 in
theorem spelled_any (l : List UInt8) (w : World) (hl : l.length < 4294967000) :
    Calls Tryd.prog 34 #[.string ⟨l.toArray⟩] w fun e w' => e = .returned (.string ⟨(spelled l).toArray⟩) ∧ Below w.heap.size w w' := by
  have hsz := size_mk l
  have HL := Lib.hid (Tryd.strings_LastIndexByte ⟨l.toArray⟩ 58 (by rw [hsz]; omega))
  have HA := Lib.hid (last_at l)
  have hle := lastP_le l
  obtain ⟨n, hn⟩ : ∃ n, n = l.length - (lastP l).length := ⟨_, rfl⟩
  have HD : Hid (l.drop n = lastP l) := Lib.hid (by rw [hn]; exact drop_last l)
  rw [← hn] at HA
  have hnl : n ≤ l.length := by omega
  have ha0 : Lib.lastIndexByte ⟨l.toArray⟩ 58 = (n : Int) - 1 := by have := HA.out; omega
  rw [ha0] at HL
  have HN := Lib.hid hn
  have HS := Lib.hid hsz
  clear hn ha0 HA
  have hsl : ∀ W, (Instr.slice 9 (.string ⟨l.toArray⟩) (some (.int .i64 (n : Int))) none none).run Tryd.prog W = .ok (.string ⟨(lastP l).toArray⟩) W := by
    intro W
    rw [run_slice_string_l W 9 _ Tryd.underlying9 .i64 n (by omega) (by rw [HS.out]; omega), Int.toNat_natCast, HS.out, slice_from l n _ (Nat.le_refl _), HD.out]
  have HP := Lib.hid (parse4_any (lastP l) w (by omega))
  unfold Parse4 at HP
  cases hk : ok4 (lastP l)
  · have E : Hid (spelled l = l) := Lib.hid (by unfold spelled; rw [if_neg (by simp [hk])])
    rw [hk] at HP
    clear hk
    go_enter Tryd.func34, Tryd.ntmps34
    go_wp2_with fail
    refine (HL.out _).mono ?_
    rintro e w1 ⟨rfl, rfl⟩
    go_wp2_with fail
    refine HP.out.mono ?_
    rintro e w2 ⟨rfl, hb2⟩
    go_wp2_with fail
    go_ret
    exact ⟨ret_s E.out.symm, hb2⟩
  · have E : Hid (spelled l = l.take n ++ (hi4 (lastP l) ++ 58 :: lo4 (lastP l))) := Lib.hid (by unfold spelled; rw [if_pos hk, HN.out])
    rw [hk] at HP
    clear hk
    obtain ⟨m, hm⟩ : ∃ m, m = num4 (lastP l) := ⟨_, rfl⟩
    have hmlt : m < 4294967296 := by rw [hm]; exact num4_lt _
    have EH1 : Hid (hi4 (lastP l) = hex ((m / 65536 : Nat) : Int)) := Lib.hid (by rw [hm]; rfl)
    have EH2 : Hid (lo4 (lastP l) = hex ((m % 65536 : Nat) : Int)) := Lib.hid (by rw [hm]; rfl)
    rw [← hm] at HP
    clear hm
    have hand : bits .and .u32 (m : Int) 65535 = (m : Int) % 65536 := by rw [and16u m hmlt]; omega
    have hm1 : m / 65536 < 65536 := by omega
    have hm2 : m % 65536 < 65536 := by omega
    obtain ⟨a, ha⟩ : ∃ a, a = hi4 (lastP l) := ⟨_, rfl⟩
    obtain ⟨b, hb⟩ : ∃ b, b = lo4 (lastP l) := ⟨_, rfl⟩
    rw [← ha] at EH1 E
    rw [← hb] at EH2 E
    have hal : a.length ≤ 4 := by rw [ha]; exact hex_len _
    have hbl : b.length ≤ 4 := by rw [hb]; exact hex_len _
    clear ha hb
    have hto : ∀ W, (Instr.slice 9 (.string ⟨l.toArray⟩) none (some (.int .i64 (n : Int))) none).run Tryd.prog W = .ok (.string ⟨(l.take n).toArray⟩) W := by
      intro W
      rw [run_slice_string_h W 9 _ Tryd.underlying9 .i64 n (by omega) (by rw [HS.out]; omega), Int.toNat_natCast, slice_to]
    have htl : (l.take n).length ≤ l.length := List.length_take_le' _ _
    have hcc : ∀ W, (Op.stringOp .add (⟨(l.take n).toArray⟩ : ByteArray) ⟨(a ++ 58 :: b).toArray⟩).run Tryd.prog W = .ok (.string (⟨(l.take n).toArray⟩ ++ ⟨(a ++ 58 :: b).toArray⟩)) W :=
      fun W => run_string_add_sum W _ _ (by rw [size_mk, size_mk]; simp only [List.length_append, List.length_cons]; omega)
    go_enter Tryd.func34, Tryd.ntmps34
    go_wp2_with fail
    refine (HL.out _).mono ?_
    rintro e w1 ⟨rfl, rfl⟩
    go_wp2_with fail
    refine HP.out.mono ?_
    rintro e w2 ⟨rfl, hb2⟩
    have hk0 : Kept w2 w2 := Below.refl _ _
    have HX1 : Hid (∀ W, Kept w2 W → Calls Tryd.prog 45 #[.int .i64 ((m : Int) / 65536)] W fun e w' => e = .returned (.string ⟨a.toArray⟩) ∧ Kept w2 w') :=
      fun W h => by
        have := hex_any ((m / 65536 : Nat) : Int) W (by omega) (by omega)
        rw [← EH1.out] at this
        exact this.mono fun e w' ⟨he, hb⟩ => ⟨he, low_trans h hb⟩
    have HX2 : Hid (∀ W, Kept w2 W → Calls Tryd.prog 45 #[.int .i64 ((m : Int) % 65536)] W fun e w' => e = .returned (.string ⟨b.toArray⟩) ∧ Kept w2 w') :=
      fun W h => by
        have := hex_any ((m % 65536 : Nat) : Int) W (by omega) (by omega)
        rw [← EH2.out] at this
        exact this.mono fun e w' ⟨he, hb⟩ => ⟨he, low_trans h hb⟩
    have HJ : Hid (∀ W : World, Kept w2 W → Calls Tryd.prog 47 #[.slice (some ⟨W.heap.size, 0, none⟩) 2 2, .int .u8 58] (W.alloc (.cells #[.string ⟨a.toArray⟩, .string ⟨b.toArray⟩] 9)) fun e w' => e = .returned (.string ⟨(a ++ 58 :: b).toArray⟩) ∧ Kept w2 w') :=
      fun W h => (join_any _ [a, b] 58 _ (Txts.lit W [a, b] #[.string ⟨a.toArray⟩, .string ⟨b.toArray⟩] 9 rfl) (by simp) (by simp [glue]; omega)).mono fun e w' ⟨he, hb⟩ => ⟨he, low_trans (Below.alloc h h.size _) hb⟩
    have q1 : IntKind.i64.wrap ((m : Int) / 65536) = (m : Int) / 65536 := IntWalk.i64_in _ (by omega)
    have q2 : IntKind.i64.wrap ((m : Int) % 65536) = (m : Int) % 65536 := IntWalk.i64_in _ (by omega)
    go_wp2_with fail
    go_region_held3 (fun w' => Kept w2 w') (first | assumption | exact low_drewN ‹_› 1 | exact Below.alloc ‹Kept w2 _› (Below.size ‹Kept w2 _›) _)
      (first
        | (go_at_call 45; (with_reducible refine (HX1.out _ ‹_›).mono ?_); rintro e w' ⟨rfl, hkw⟩)
        | (go_at_call 45; (with_reducible refine (HX2.out _ ‹_›).mono ?_); rintro e w' ⟨rfl, hkw⟩)
        | (go_at_call 47; refine (HJ.out _ ‹_›).mono ?_; rintro e w' ⟨rfl, hkw⟩))
    all_goals (clear q1 q2; go_wp2; go_ret; exact ⟨by rw [E.out]; exact cat_s rfl, low_trans hb2 ‹Kept w2 _›⟩)
theorem below_drewN {a w : World} {n : Nat} (h : Below (a.drewN n).heap.size (a.drewN n) w) : Below a.heap.size a w := ⟨h.os, h.tape, h.output, h.size, h.block⟩
/-! The whole. -/
def Parse6 (l : List UInt8) (w : World) (e : Ending) (w' : World) : Prop := e = .returned (.tuple #[.int .u64 (hi6 l : Nat), .int .u64 (lo6 l : Nat), .bool (ok6 l)]) ∧ Below w.heap.size w w'
theorem parse6_no {l : List UInt8} {w w' : World} {e : Ending} (h : groups l = none) (he : e = .returned (.tuple #[.int .u64 0, .int .u64 0, .bool false])) (hb : Below w.heap.size w w') : Parse6 l w e w' := by
  obtain ⟨h1, h2, h3⟩ := ok6_no h
  exact ⟨by rw [h1, h2, h3]; exact he, hb⟩
theorem parse6_yes {l : List UInt8} {w w' : World} {e : Ending} {g : List Int} {a b : Nat} (h : groups l = some g) (ha : a = val (g.take 4)) (hb' : b = val (g.drop 4)) (he : e = .returned (.tuple #[.int .u64 a, .int .u64 b, .bool true])) (hb : Below w.heap.size w w') : Parse6 l w e w' := by
  obtain ⟨h1, h2, h3⟩ := ok6_of h
  exact ⟨by rw [h1, h2, h3, ← ha, ← hb']; exact he, hb⟩
/-- Do the groups on two sides of a gap fit? -/
def fits (n : Nat) (short : Bool) : Bool := if short then decide ((n : Int) < 8) else (n : Int) == 8
theorem fits_yes (n : Nat) : fits n true = true ↔ n < 8 := by unfold fits; simp; omega
theorem fits_no (n : Nat) : fits n false = true ↔ n = 8 := by unfold fits; simp; omega
theorem index_gap {l b a : List UInt8} (h : gap l = some (b, a)) : Lib.index l [58, 58] = b.length := by
  obtain ⟨e, hn⟩ := gap_some.1 h
  refine Lib.index_first (by rw [e]; simp) ?_ ?_
  · unfold Lib.occAt; rw [e, List.drop_left]; rfl
  · intro j hj
    have h2 := hn j hj
    unfold Lib.occAt
    have hlt : j + 1 < l.length := by rw [e]; simp; omega
    rw [List.drop_eq_getElem_cons (by omega), List.drop_eq_getElem_cons hlt]
    unfold two at h2
    rw [List.getElem?_eq_getElem (by omega), List.getElem?_eq_getElem hlt] at h2
    simp only [List.isPrefixOf, Bool.and_true]
    rw [Bool.and_eq_false_iff]
    by_cases c : l[j] = 58
    · right
      simp only [beq_eq_false_iff_ne]; intro e2
      exact h2 ⟨by rw [c], by rw [e2]⟩
    · left
      simp only [beq_eq_false_iff_ne]; intro e2; exact c e2.symm
theorem index_nogap : ∀ {l : List UInt8}, gap l = none → Lib.index l [58, 58] = -1
  | [], _ => rfl
  | b :: l, h => by
    rw [gap] at h
    by_cases h0 : two (b :: l) 0
    · rw [if_pos h0] at h; cases h
    · rw [if_neg h0, Option.map_eq_none_iff] at h
      have ih := index_nogap h
      have hp : ([58, 58] : List UInt8).isPrefixOf (b :: l) = false := by
        unfold two at h0
        cases l with
        | nil => simp [List.isPrefixOf]
        | cons c t =>
          simp at h0
          simp [List.isPrefixOf]
          intro e1 e2; exact h0 e1.symm e2.symm
      rw [Lib.index, hp, ih]; simp
theorem cut_of_gap {l : List UInt8} : Lib.cut l [58, 58] = match gap l with | some (b, a) => (b, a, true) | none => (l, [], false) := by
  cases h : gap l with
  | none => unfold Lib.cut; rw [index_nogap h]; rfl
  | some p =>
    obtain ⟨b, a⟩ := p
    unfold Lib.cut
    rw [index_gap h, if_pos (by omega), Int.toNat_natCast]
    obtain ⟨e, _⟩ := gap_some.1 h
    simp only []
    have h1 : l.take b.length = b := by rw [e]; exact List.take_left' rfl
    have h2 : l.drop (b.length + 2) = a := by rw [e, ← List.drop_drop, List.drop_left]; rfl
    rw [h1]
    show (b, l.drop (b.length + 2), true) = _
    rw [h2]
/-- What is read, by the two sides that the library's cut leaves. -/
theorem groups_cut {l b a : List UInt8} {short : Bool} (h : Lib.cut (spelled l) [58, 58] = (b, a, short)) :
    groups l = if allHex (parts b) = true ∧ allHex (parts a) = true ∧ fits ((parts b).length + (parts a).length) short = true then some (nums (parts b) ++ List.replicate (8 - (parts b).length - (parts a).length) 0 ++ nums (parts a)) else none := by
  rw [cut_of_gap] at h
  rw [groups_code]
  cases hg : gap (spelled l) with
  | none =>
    rw [hg] at h
    simp only [Prod.mk.injEq] at h
    obtain ⟨rfl, rfl, rfl⟩ := h
    have h0 : parts [] = [] := rfl
    rw [h0]
    simp only [fits_no]
    by_cases h8 : (parts (spelled l)).length = 8
    · simp [h8, allHex, nums]
    · simp [h8, allHex]
  | some p =>
    obtain ⟨x, y⟩ := p
    rw [hg] at h
    simp only [Prod.mk.injEq] at h
    obtain ⟨rfl, rfl, rfl⟩ := h
    simp only [fits_yes]
theorem cut_len6 {l b a : List UInt8} {short : Bool} (h : Lib.cut l [58, 58] = (b, a, short)) : b.length ≤ l.length ∧ a.length ≤ l.length := by
  unfold Lib.cut at h
  split at h
  · simp only [Prod.mk.injEq] at h
    obtain ⟨rfl, rfl, _⟩ := h
    exact ⟨List.length_take_le' _ _, by rw [List.length_drop]; omega⟩
  · simp only [Prod.mk.injEq] at h
    obtain ⟨rfl, rfl, _⟩ := h
    simp
/-- The list of the groups, laid part by part. -/
theorem laid8 {H T : List Int} (h : H.length + T.length ≤ 8) : splice (splice (List.replicate 8 (intV 0)) 0 (H.map intV)) (8 - T.length) (T.map intV) = (H ++ List.replicate (8 - H.length - T.length) 0 ++ T).map intV := by
  unfold splice
  have a1 : List.take 0 (List.replicate 8 (intV 0)) ++ (H.map intV ++ List.drop (0 + (H.map intV).length) (List.replicate 8 (intV 0))) = H.map intV ++ List.replicate (8 - H.length) (intV 0) := by
    rw [List.take_zero, List.nil_append, Nat.zero_add, List.drop_replicate, List.length_map]
  rw [a1, List.take_append, List.take_of_length_le (by simp; omega), List.take_replicate, List.drop_eq_nil_of_le (by simp; omega), List.append_nil, List.map_append, List.map_append, List.map_replicate]
  congr 3
  simp; omega
theorem slice8i (g : Nat) (W : World) : (Instr.sliceAt 58 (.pointer (some ⟨g, 0, none⟩)) none none none).run Tryd.prog W = .ok (.slice (some ⟨g, 0, none⟩) 8 8) W := by
  have e1 : Tryd.prog.arrayLen 58 = 8 := by kernel_rfl
  have e2 : Tryd.prog.elem 58 = 3 := by kernel_rfl
  have e3 : (sizeOf 3).run Tryd.prog W = .ok 1 W := by kernel_rfl
  rw [run_sliceAt_array_all W 58 _ (by rw [e1, e2]; kernel_rfl), e1, e2, e3]
  rfl
theorem slice8ih (g k : Nat) (hk : k ≤ 8) (W : World) : (Instr.sliceAt 58 (.pointer (some ⟨g, 0, none⟩)) none (some (.int .i64 (k : Int))) none).run Tryd.prog W = .ok (.slice (some ⟨g, 0, none⟩) k 8) W := by
  have e1 : Tryd.prog.arrayLen 58 = 8 := by kernel_rfl
  have e2 : Tryd.prog.elem 58 = 3 := by kernel_rfl
  have e3 : (sizeOf 3).run Tryd.prog W = .ok 1 W := by kernel_rfl
  rw [run_sliceAt_array_h W 58 _ (by rw [e1, e2]; kernel_rfl) .i64 k (by omega) (by rw [e1]; omega), e1, e2, e3]
  simp [Result.andThen, slicedAt, Addr.add]
theorem slice8il (g k : Nat) (z : Int) (hz : z = (k : Int)) (hk : k ≤ 8) (W : World) : (Instr.sliceAt 58 (.pointer (some ⟨g, 0, none⟩)) (some (.int .i64 z)) none none).run Tryd.prog W = .ok (.slice (restA g k) (8 - k) (8 - k)) W := by
  subst hz
  have e1 : Tryd.prog.arrayLen 58 = 8 := by kernel_rfl
  have e2 : Tryd.prog.elem 58 = 3 := by kernel_rfl
  have e3 : (sizeOf 3).run Tryd.prog W = .ok 1 W := by kernel_rfl
  rw [run_sliceAt_array_l W 58 _ (by rw [e1, e2]; kernel_rfl) .i64 k (by omega) (by rw [e1]; omega), e1, e2, e3]
  simp only [Result.andThen, slicedAt, Int.toNat_natCast, Nat.mul_one]
  unfold restA
  by_cases h : k = 8
  · rw [if_pos h.symm, if_pos h]
  · rw [if_neg (by omega), if_neg h]
    congr 3
    unfold Addr.add; split <;> simp_all
def NoInts (w : World) (e : Ending) (w' : World) : Prop := ∃ A c, e = .returned (.tuple #[.slice A 0 c, .bool false]) ∧ Below w.heap.size w w'
theorem read_no {l : List UInt8} (h : allHex (parts l) = false) (w : World) (hl : l.length < 4294967281) : Calls Tryd.prog 35 #[.string ⟨l.toArray⟩] w (NoInts w) := by
  refine (read_any l w hl).mono ?_
  rintro e w' ⟨v, he, hi, hb⟩
  rw [h] at he hi
  obtain ⟨A, c, rfl, h2, h3⟩ := hi
  exact ⟨A, c, he, hb⟩
def SomeInts (gs : List Int) (w : World) (e : Ending) (w' : World) : Prop := ∃ A c, e = .returned (.tuple #[.slice A gs.length c, .bool true]) ∧ (0 < gs.length → ∃ b o, A = some ⟨b, o, none⟩ ∧ b < w'.heap.size ∧ ∀ j (h : j < gs.length), w'.cell? ⟨b, o + j, none⟩ = some (.int .i64 gs[j])) ∧ Below w.heap.size w w'
theorem read_yes {l : List UInt8} (h : allHex (parts l) = true) (w : World) (hl : l.length < 4294967281) : Calls Tryd.prog 35 #[.string ⟨l.toArray⟩] w (SomeInts (nums (parts l)) w) := by
  refine (read_any l w hl).mono ?_
  rintro e w' ⟨v, he, hi, hb⟩
  rw [h] at he hi
  obtain ⟨A, c, rfl, h2, h3⟩ := hi
  exact ⟨A, c, he, h3, hb⟩
theorem cut_any (l : List UInt8) (w : World) (hl : l.length < 4294967281) (hL : Lens w) : Calls Tryd.prog 33 #[.string ⟨l.toArray⟩, .string ⟨#[58, 58]⟩] w
    fun e w' => e = .returned (.tuple #[.string ⟨(Lib.cut l [58, 58]).1.toArray⟩, .string ⟨(Lib.cut l [58, 58]).2.1.toArray⟩, .bool (Lib.cut l [58, 58]).2.2]) ∧ ∃ n, w' = w.drewN n := by
  obtain ⟨m, hm⟩ := hL
  have := Tryd.strings_Cut ⟨l.toArray⟩ ⟨#[58, 58]⟩ m w (by rw [size_mk]; exact hl) hm
  simp only at this
  exact this
set_option maxHeartbeats 4000000 in
theorem parse6_any (l : List UInt8) (w : World) (hl : l.length < 4294967000) (hL : Lens w) : Calls Tryd.prog 23 #[.string ⟨l.toArray⟩] w (Parse6 l w) := by
  obtain ⟨b, a, short, hcut⟩ : ∃ b a short, Lib.cut (spelled l) [58, 58] = (b, a, short) := ⟨_, _, _, rfl⟩
  have HG := Lib.hid (groups_cut hcut)
  have hsl := spelled_len l
  have hcl := cut_len6 hcut
  have hcl1 := hcl.1
  have hcl2 := hcl.2
  have HC : Hid (∀ W, Lens W → Calls Tryd.prog 33 #[.string ⟨(spelled l).toArray⟩, .string ⟨#[58, 58]⟩] W fun e w' => e = .returned (.tuple #[.string ⟨b.toArray⟩, .string ⟨a.toArray⟩, .bool short]) ∧ ∃ n, w' = W.drewN n) := by
    intro W h
    have := cut_any (spelled l) W (by omega) h
    rw [hcut] at this
    exact this
  clear hcut hcl
  cases hA : allHex (parts b)
  · have E : Hid (groups l = none) := Lib.hid (by rw [HG.out, hA, if_neg (by simp)])
    have HR := Lib.hid (read_no hA)
    clear hA HG
    go_enter Tryd.func23, Tryd.ntmps23
    go_wp2_with fail
    refine (spelled_any l _ hl).mono ?_
    rintro e w1 ⟨rfl, hb1⟩
    go_wp2_with fail
    refine (HC.out _ (hL.below hb1)).mono ?_
    rintro e w2 ⟨rfl, q, rfl⟩
    go_wp2_with fail
    refine (HR.out _ (by omega)).mono ?_
    rintro e w3 ⟨A, c, rfl, hb3⟩
    go_wp2_with fail
    refine (read_any a _ (by omega)).mono ?_
    rintro e w4 ⟨v4, rfl, hi4, hb4⟩
    clear hi4
    go_wp2
    all_goals go_ret3
    all_goals exact parse6_no E.out rfl (low_trans hb1 (low_trans (below_drewN hb3) hb4))
  · cases hB : allHex (parts a)
    · have E : Hid (groups l = none) := Lib.hid (by rw [HG.out, hB, if_neg (by simp)])
      have HR := Lib.hid (read_yes hA)
      have HR2 := Lib.hid (read_no hB)
      clear hA hB HG
      go_enter Tryd.func23, Tryd.ntmps23
      go_wp2_with fail
      refine (spelled_any l _ hl).mono ?_
      rintro e w1 ⟨rfl, hb1⟩
      go_wp2_with fail
      refine (HC.out _ (hL.below hb1)).mono ?_
      rintro e w2 ⟨rfl, q, rfl⟩
      go_wp2_with fail
      refine (HR.out _ (by omega)).mono ?_
      rintro e w3 ⟨A, c, rfl, hc3, hb3⟩
      clear hc3
      go_wp2_with fail
      refine (HR2.out _ (by omega)).mono ?_
      rintro e w4 ⟨A4, c4, rfl, hb4⟩
      go_wp2
      go_ret3
      exact parse6_no E.out rfl (low_trans hb1 (low_trans (below_drewN hb3) hb4))
    · have HR := Lib.hid (read_yes hA)
      have HR2 := Lib.hid (read_yes hB)
      have hcb : (parts b).length ≤ 4294967400 := by
        unfold parts; split
        · simp
        · have := List.count_le_length (a := (58 : UInt8)) (l := b); rw [cut_len]; omega
      have hca : (parts a).length ≤ 4294967400 := by
        unfold parts; split
        · simp
        · have := List.count_le_length (a := (58 : UInt8)) (l := a); rw [cut_len]; omega
      obtain ⟨H, hH⟩ : ∃ H, H = nums (parts b) := ⟨_, rfl⟩
      obtain ⟨T, hT⟩ : ∃ T, T = nums (parts a) := ⟨_, rfl⟩
      have lH : H.length = (parts b).length := by rw [hH]; simp [nums]
      have lT : T.length = (parts a).length := by rw [hT]; simp [nums]
      have HBD : Hid (∀ x ∈ H ++ List.replicate (8 - H.length - T.length) 0 ++ T, 0 ≤ x ∧ x ≤ 65535) := by
        intro x hx
        rcases List.mem_append.1 hx with hx | hx
        · rcases List.mem_append.1 hx with hx | hx
          · rw [hH] at hx; exact nums_bd x hx
          · have := List.eq_of_mem_replicate hx; omega
        · rw [hT] at hx; exact nums_bd x hx
      rw [← hH] at HR
      rw [← hT] at HR2
      have lH2 : H.length ≤ 4294967400 := by omega
      have lT2 : T.length ≤ 4294967400 := by omega
      have HFill := Lib.hid (fill_any (((H.length + T.length : Nat) : Int)) short)
      cases hF : fits (H.length + T.length) short
      · have E : Hid (groups l = none) := Lib.hid (by rw [HG.out, if_neg]; rintro ⟨_, _, h⟩; rw [← lH, ← lT, hF] at h; cases h)
        have hfl : (if short then decide (((H.length + T.length : Nat) : Int) < 8) else ((H.length + T.length : Nat) : Int) == 8) = false := hF
        rw [hfl] at HFill
        clear hA hB HG hF hfl hH hT lH lT hcb hca
        go_enter Tryd.func23, Tryd.ntmps23
        go_wp2_with fail
        refine (spelled_any l _ hl).mono ?_
        rintro e w1 ⟨rfl, hb1⟩
        go_wp2_with fail
        refine (HC.out _ (hL.below hb1)).mono ?_
        rintro e w2 ⟨rfl, q, rfl⟩
        go_wp2_with fail
        refine (HR.out _ (by omega)).mono ?_
        rintro e w3 ⟨A, c, rfl, hc3, hb3⟩
        clear hc3
        go_wp2_with fail
        refine (HR2.out _ (by omega)).mono ?_
        rintro e w4 ⟨A4, c4, rfl, hc4, hb4⟩
        clear hc4
        go_wp2_with fail
        refine (HFill.out _).mono ?_
        rintro e w5 ⟨rfl, rfl⟩
        go_wp2
        go_ret3
        exact parse6_no E.out rfl (low_trans hb1 (low_trans (below_drewN hb3) hb4))
      · have hle : H.length + T.length ≤ 8 := by
          cases short
          · have := (fits_no _).1 hF; omega
          · have := (fits_yes _).1 hF; omega
        have E : Hid (groups l = some (H ++ List.replicate (8 - H.length - T.length) 0 ++ T)) := Lib.hid (by rw [HG.out, if_pos ⟨hA, hB, by rw [← lH, ← lT]; exact hF⟩, lH, lT, hH, hT])
        have hfl : (if short then decide (((H.length + T.length : Nat) : Int) < 8) else ((H.length + T.length : Nat) : Int) == 8) = true := hF
        rw [hfl] at HFill
        have HL8 := Lib.hid (laid8 hle)
        obtain ⟨G, hG⟩ : ∃ G, G = H ++ List.replicate (8 - H.length - T.length) 0 ++ T := ⟨_, rfl⟩
        have lG : G.length = 8 := by rw [hG]; simp; omega
        rw [← hG] at HL8 E HBD
        have HLG := Lib.hid lG
        obtain ⟨HM, hHM⟩ : ∃ HM, HM = H.map intV := ⟨_, rfl⟩
        obtain ⟨TM, hTM⟩ : ∃ TM, TM = T.map intV := ⟨_, rfl⟩
        rw [← hHM, ← hTM] at HL8
        have hHl : HM.length = H.length := by rw [hHM]; simp
        have hTl : TM.length = T.length := by rw [hTM]; simp
        have hH1 : ∀ v ∈ HM, v.oneCell' = true := by rw [hHM]; exact ints_one H
        have hT1 : ∀ v ∈ TM, v.oneCell' = true := by rw [hTM]; exact ints_one T
        have hHc : ∀ j v, HM[j]? = some v → ∃ h : j < H.length, v = .int .i64 H[j] := by
          intro j v hj
          rw [hHM, List.getElem?_map] at hj
          obtain ⟨x, hx, rfl⟩ := Option.map_eq_some_iff.1 hj
          obtain ⟨h, rfl⟩ := List.getElem?_eq_some_iff.1 hx
          exact ⟨h, rfl⟩
        have hTc : ∀ j v, TM[j]? = some v → ∃ h : j < T.length, v = .int .i64 T[j] := by
          intro j v hj
          rw [hTM, List.getElem?_map] at hj
          obtain ⟨x, hx, rfl⟩ := Option.map_eq_some_iff.1 hj
          obtain ⟨h, rfl⟩ := List.getElem?_eq_some_iff.1 hx
          exact ⟨h, rfl⟩
        have KHl := Lib.hid hHl
        have KTl := Lib.hid hTl
        have KH1 := Lib.hid hH1
        have KT1 := Lib.hid hT1
        have KHc := Lib.hid hHc
        have KTc := Lib.hid hTc
        clear hHM hTM hHl hTl hH1 hT1 hHc hTc
        have hT8 : T.length ≤ 8 := by omega
        have hH8 : H.length ≤ 8 := by omega
        clear hA hB HG hF hfl hH hT lH lT hcb hca hG lG
        go_enter Tryd.func23, Tryd.ntmps23
        go_wp2_with fail
        refine (spelled_any l _ hl).mono ?_
        rintro e w1 ⟨rfl, hb1⟩
        go_wp2_with fail
        refine (HC.out _ (hL.below hb1)).mono ?_
        rintro e w2 ⟨rfl, q, rfl⟩
        go_wp2_with fail
        refine (HR.out _ (by omega)).mono ?_
        rintro e w3 ⟨A, c, rfl, hc3, hb3⟩
        have HC3 := Lib.hid hc3
        clear hc3
        go_wp2_with fail
        refine (HR2.out _ (by omega)).mono ?_
        rintro e w4 ⟨A4, c4, rfl, hc4, hb4⟩
        have HC4 := Lib.hid hc4
        clear hc4
        go_wp2_with fail
        refine (HFill.out _).mono ?_
        rintro e w5 ⟨rfl, rfl⟩
        have hsall := fun W => slice8i w4.heap.size W
        have hsl2 := fun W => slice8il w4.heap.size (8 - T.length) (8 - (T.length : Int)) (by omega) (by omega) W
        go_wp2_with (with_reducible refine wpList_copy_splice rfl _ _ 54 54 rfl 3 Tryd.underlying54 (by kernel_rfl) (some ⟨w4.heap.size, 0, none⟩) A 8 8 H.length c rfl rfl w4.heap.size 0 (List.replicate 8 (intV 0)) 58 ?hg1 HM ?hn1 ?hp1 ?hf1 KH1.out w4.heap.size w4 ?hb1 (Nat.le_refl _) ?_)
        case hg1 => exact heap_alloc_new w4 _
        case hn1 => rw [KHl.out]; show H.length = min H.length 8; omega
        case hp1 =>
          intro hp
          rw [KHl.out] at hp
          obtain ⟨bb, o, rfl, hlt, hc⟩ := HC3.out hp
          refine ⟨_, rfl, fun j v hj => ?_⟩
          obtain ⟨h, rfl⟩ := KHc.out j v hj
          rw [add_plain, (((hb4.alloc hb4.size _)).cell (p := ⟨bb, o + j, none⟩) hlt)]
          exact hc j h
        case hf1 => rw [KHl.out]; simp; omega
        case hb1 => exact (Below.refl _ _).alloc (Nat.le_refl _) _
        intro w6 HG6 hb6
        have hsl3 := hsl2 w6
        clear hsl2 hsall
        go_wp2_with (with_reducible refine wpList_copy_splice rfl _ _ 54 54 rfl 3 Tryd.underlying54 (by kernel_rfl) (restA w4.heap.size (8 - T.length)) A4 (8 - (8 - T.length)) (8 - (8 - T.length)) T.length c4 rfl rfl w4.heap.size (8 - T.length) _ 58 HG6.out TM ?hn2 ?hp2 ?hf2 KT1.out w4.heap.size w4 hb6 (Nat.le_refl _) ?_)
        case hn2 => rw [KTl.out]; show T.length = min T.length (8 - (8 - T.length)); omega
        case hp2 =>
          intro hp
          rw [KTl.out] at hp
          obtain ⟨bb, o, rfl, hlt, hc⟩ := HC4.out hp
          refine ⟨(by unfold restA; rw [if_neg (by omega)]), _, rfl, fun j v hj => ?_⟩
          obtain ⟨h, rfl⟩ := KTc.out j v hj
          rw [add_plain, hb6.cell (p := ⟨bb, o + j, none⟩) hlt]
          exact hc j h
        case hf2 => rw [KTl.out, length_splice _ _ _ (by rw [KHl.out]; simp; omega)]; simp; omega
        intro w7 HG7 hb7
        have HG8 : Hid (w7.heap[w4.heap.size]? = some (.cells (G.map intV).toArray 58 (0, 0))) := by rw [← HL8.out]; exact HG7
        clear HG6 HG7 hb6 hsl3
        have hcell : Hid (∀ j (h : j < G.length), w7.cell? ⟨w4.heap.size, j, none⟩ = some (.int .i64 G[j])) := by
          intro j h
          rw [cell_of_row _ _ _ _ _ _ HG8.out, List.getElem?_toArray, List.getElem?_map, List.getElem?_eq_getElem h]; rfl
        have hs1 : ∀ W, (Instr.sliceAt 58 (.pointer (some ⟨w4.heap.size, 0, none⟩)) none (some (.int .i64 4)) none).run Tryd.prog W = .ok (.slice (some ⟨w4.heap.size, 0, none⟩) 4 8) W := fun W => slice8ih w4.heap.size 4 (by omega) W
        have hs2 : ∀ W, (Instr.sliceAt 58 (.pointer (some ⟨w4.heap.size, 0, none⟩)) (some (.int .i64 4)) none none).run Tryd.prog W = .ok (.slice (some ⟨w4.heap.size, 4, none⟩) 4 4) W := fun W => slice8il w4.heap.size 4 4 rfl (by omega) W
        have N1 : Hid (∀ n, Calls Tryd.prog 37 #[.slice (some ⟨w4.heap.size, 0, none⟩) 4 8] (w7.drewN n) fun e w' => e = .returned (.int .u64 (val (G.take 4) : Nat)) ∧ ∃ q, w' = (w7.drewN n).drewN q) := by
          intro n
          refine (number_any (G.take 4) w4.heap.size 0 8 (w7.drewN n) (by rw [List.length_take, HLG.out]; rfl) (fun j h => ?_) (by omega) (fun g hg => HBD.out g (List.mem_of_mem_take hg))).mono ?_
          · rw [List.getElem_take, Nat.zero_add]
            exact hcell.out j (by rw [List.length_take] at h; omega)
          · rintro e w' ⟨rfl, rfl⟩; exact ⟨rfl, 0, rfl⟩
        have N2 : Hid (∀ n, Calls Tryd.prog 37 #[.slice (some ⟨w4.heap.size, 4, none⟩) 4 4] (w7.drewN n) fun e w' => e = .returned (.int .u64 (val (G.drop 4) : Nat)) ∧ ∃ q, w' = (w7.drewN n).drewN q) := by
          intro n
          refine (number_any (G.drop 4) w4.heap.size 4 4 (w7.drewN n) (by rw [List.length_drop, HLG.out]) (fun j h => ?_) (by omega) (fun g hg => HBD.out g (List.mem_of_mem_drop hg))).mono ?_
          · rw [List.getElem_drop]
            exact hcell.out (4 + j) (by rw [List.length_drop] at h; omega)
          · rintro e w' ⟨rfl, rfl⟩; exact ⟨rfl, 0, rfl⟩
        go_wp2_with fail
        go_quiet ((first | (go_at_call 37; with_reducible exact Calls.quiet_of (N1.out _)) | (go_at_call 37; with_reducible exact Calls.quiet_of (N2.out _))))
        go_wp2
        go_ret3
        exact parse6_yes E.out rfl rfl rfl (low_drewN (low_trans hb1 (low_trans (below_drewN hb3) (low_trans hb4 hb7))) _)
end Go.Proofs.YtokbifndhkijiaaDoor.V6
