/- Contracts of the document's answers for layer 7: what needs no text. -/
import Derived.Test.YtefkolkagebffaaGreatDoorCidrAll
import Derived.Test.YtefkolkagebffaaGreatDoorRef07Low
import Derived.Test.YtefkolkagebffaaGreatDoorRef07Right
import Derived.Test.YtefkolkagebffaaGreatDoorRef07Full
namespace Go.Proofs.YtefkolkagebffaaGreatDoor.Ci
set_option maxRecDepth 100000
open Go.ChangeShapes Go.WideShapes Go.ChangeAt Go.RowKit
open Dec Words V4 V6 Ad
set_option linter.unusedVariables false
theorem rfull_any (a : Adr) (w : World) (ha : a.ok) :
    Calls Tryz.prog 63 #[.agg #[.bool a.v6, .int .u64 a.hi, .int .u64 a.lo]] w fun e w' => e = .returned (.agg #[.bool (fullN a).a.v6, .int .u64 (fullN a).a.hi, .int .u64 (fullN a).a.lo, .int .i64 (fullN a).n]) ∧ Below w.heap.size w w' :=
  rfull_of a w ha fun W => by have hb := bitsA_two a; exact rmake_any a (bitsA a : Int) W ha (by omega) (by omega)
end Go.Proofs.YtefkolkagebffaaGreatDoor.Ci
namespace Go.Proofs.YtefkolkagebffaaGreatDoor.Ci
set_option maxRecDepth 100000
open Go.ChangeShapes Go.WideShapes Go.ChangeAt Go.RowKit
open Dec Words V4 V6 Ad
set_option linter.unusedVariables false
/-- Where the first slash at k or behind it stands; the end, if none does. -/
def atF (l : List UInt8) (k : Nat) : Nat := k + (pre (l.drop k)).length
theorem atF_end (l : List UInt8) : atF l l.length = l.length := by unfold atF; simp [pre]
theorem atF_le (l : List UInt8) {k : Nat} (h : k ≤ l.length) : atF l k ≤ l.length := by
  unfold atF
  have := pre_le (l.drop k)
  rw [List.length_drop] at this
  omega
theorem atF_hit {l : List UInt8} {k : Nat} (h : k < l.length) (e : l[k] = 47) : atF l k = k := by
  unfold atF
  rw [List.drop_eq_getElem_cons h, e]; simp [pre]
theorem atF_off {l : List UInt8} {k : Nat} (h : k < l.length) (e : l[k] ≠ 47) : atF l k = atF l (k + 1) := by
  unfold atF
  rw [List.drop_eq_getElem_cons h]
  have : pre (l[k] :: l.drop (k + 1)) = l[k] :: pre (l.drop (k + 1)) := by unfold pre; rw [List.takeWhile_cons, if_pos (by simpa using e)]
  rw [this, List.length_cons]; omega
theorem atF_zero (l : List UInt8) : atF l 0 = (pre l).length := by unfold atF; simp
theorem pre_take (l : List UInt8) : l.take (pre l).length = pre l := by
  unfold pre
  have h := List.takeWhile_append_dropWhile (p := fun b : UInt8 => b != 47) (l := l)
  conv => lhs; rw [← h]
  rw [List.takeWhile_append_dropWhile]
  conv => lhs; arg 2; rw [← h]
  exact List.take_left' rfl
theorem post_drop (l : List UInt8) : l.drop ((pre l).length + 1) = post l := by
  unfold pre post
  have h := List.takeWhile_append_dropWhile (p := fun b : UInt8 => b != 47) (l := l)
  rw [← List.drop_drop]
  congr 1
  conv => lhs; arg 2; rw [← h]
  exact List.drop_left' rfl
theorem slash_len (l : List UInt8) : (slash l = true → (pre l).length < l.length) ∧ (slash l = false → (pre l).length = l.length) := by
  have h := cut_pre l
  constructor
  · intro hs
    refine Nat.lt_of_le_of_ne (pre_le l) fun e => ?_
    have h2 := pre_take l
    rw [e, List.take_of_length_le (Nat.le_refl _)] at h2
    have hm : (47 : UInt8) ∈ l := by unfold slash at hs; simpa using hs
    rw [h2] at hm
    exact cut_parts 47 l (pre l) (by rw [h]; simp) hm
  · intro hs
    have hn : (47 : UInt8) ∉ l := by unfold slash at hs; simpa using hs
    rw [(pre_none hn).1]
theorem byte47 {l : List UInt8} {k : Nat} (h : k < l.length) (e : l[k] = 47) : ((l[k].toNat : Int) == 47) = true ∧ ((l[k].toNat : Int) != 47) = false := by rw [e]; decide
theorem byteno {l : List UInt8} {k : Nat} (h : k < l.length) (e : l[k] ≠ 47) : ((l[k].toNat : Int) == 47) = false ∧ ((l[k].toNat : Int) != 47) = true := by
  have : ¬ ((l[k].toNat : Int) = 47) := fun h2 => e (by
    have h3 : l[k].toNat = (47 : UInt8).toNat := by have : (47 : UInt8).toNat = 47 := rfl; omega
    exact UInt8.toNat_inj.1 h3)
  refine ⟨?_, ?_⟩
  · rw [beq_eq_false_iff_ne]; exact this
  · rw [bne_iff_ne]; exact this
set_option maxHeartbeats 4000000 in
theorem rparseN_A (l : List UInt8) (w : World) (hl : l.length < 4294966000) (hA : okA (pre l) = false) : Calls Tryz.prog 36 #[.string ⟨l.toArray⟩] w (ParseN l w) := by
  have hsz := size_mk l
  have PA := Lib.hid (rparseA_any (pre l))
  unfold ParseA at PA
  rw [hA] at PA
  have hpl := pre_le l
  have hql := post_le l
  have HZ := Lib.hid (atF_zero l)
  have HE := Lib.hid (atF_end l)
  have hto : ∀ W, (Instr.slice 9 (.string ⟨l.toArray⟩) none (some (.int .i64 ((pre l).length : Int))) none).run Tryz.prog W = .ok (.string ⟨(pre l).toArray⟩) W := by
    intro W
    rw [run_slice_string_h W 9 _ Tryz.underlying9 .i64 (pre l).length (by omega) (by rw [hsz]; omega), Int.toNat_natCast, slice_to, pre_take]
  have E2 := Lib.hid (okN_noA hA)
  have E1 := Lib.hid (parseN_no E2.out)
  clear hA
  go_enter Tryz.func36, Tryz.ntmps36
  go_wp2_with fail
  go_loop [4, 5] (fun at_ i => ∃ k : Nat, k ≤ l.length ∧ i = .int .i64 ((k : Int) - 1) ∧ at_ = .int .i64 (atF l k : Nat)) (fun _ i => (intOf i + 1).toNat)
  case atStart => exact ⟨l.length, by omega, rfl, by rw [HE.out]⟩
  case round =>
    obtain ⟨k, hk, rfl, rfl⟩ := hrel
    by_cases hp : 0 < k
    · obtain ⟨j, rfl⟩ : ∃ j, k = j + 1 := ⟨k - 1, by omega⟩
      rw [show (((j + 1 : Nat) : Int) - 1) = (j : Int) from by omega]
      have hj : j < l.length := by omega
      have hjs : j < (⟨l.toArray⟩ : ByteArray).size := by rw [hsz]; exact hj
      have hget : (⟨l.toArray⟩ : ByteArray)[j] = l[j] := by simp [ByteArray.getElem_eq_getElem_data]
      by_cases hb : l[j] = 47
      · have HA := Lib.hid (atF_hit hj hb)
        obtain ⟨c1, c2⟩ := byte47 hj hb
        go_wp2_with fail
        go_round
        case rel => exact ⟨j, by omega, rfl, by rw [HA.out]⟩
        case measure => simp [intOf]
      · have HA := Lib.hid (atF_off hj hb)
        obtain ⟨c1, c2⟩ := byteno hj hb
        go_wp2_with fail
        go_round
        case rel => exact ⟨j, by omega, rfl, by rw [HA.out]⟩
        case measure => simp [intOf]
    · obtain rfl : k = 0 := by omega
      rw [HZ.out]
      go_wp2_with fail
      refine (PA.out _ (by omega)).mono ?_
      rintro e w2 ⟨rfl, hb2⟩
      have hb12 := hb2
      have zs : w.heap.size + 1 ≤ w2.heap.size := by have := hb12.size; simpa using this
      have z0 : w.heap.size < w2.heap.size := by omega
      clear zs
      obtain ⟨hc, hf⟩ := old hb12
      go_wp2_with fail
      exact bodyPost_ret (v := .tuple #[.agg #[.bool false, .int .u64 0, .int .u64 0, .int .i64 0], .bool false]) (by simp [results, Tryz.results36, go_sem, hc, z0]) rfl (parseN_mk E1.out E2.out rfl ((((((((Below.refl _ _).alloc (Nat.le_refl _) _).trans (hb12.mono (by simp))).setCell (by simp) _).setCell (by simp) _).setCell (by simp) _).setCell (by simp) _).alloc (by simp; omega) _))
set_option maxHeartbeats 4000000 in
theorem rparseN_C (l : List UInt8) (w : World) (hl : l.length < 4294966000) (hA : okA (pre l) = true) (h1 : slash l = false) : Calls Tryz.prog 36 #[.string ⟨l.toArray⟩] w (ParseN l w) := by
  have hsz := size_mk l
  have PA := Lib.hid (rparseA_any (pre l))
  unfold ParseA at PA
  rw [hA] at PA
  have hpl := pre_le l
  have hql := post_le l
  have HZ := Lib.hid (atF_zero l)
  have HE := Lib.hid (atF_end l)
  have hto : ∀ W, (Instr.slice 9 (.string ⟨l.toArray⟩) none (some (.int .i64 ((pre l).length : Int))) none).run Tryz.prog W = .ok (.string ⟨(pre l).toArray⟩) W := by
    intro W
    rw [run_slice_string_h W 9 _ Tryz.underlying9 .i64 (pre l).length (by omega) (by rw [hsz]; omega), Int.toNat_natCast, slice_to, pre_take]
  have hle := (slash_len l).2 h1
  have E1 := Lib.hid (okN_full hA h1).2
  have E2 := Lib.hid (okN_full hA h1).1
  have FU := Lib.hid (fun W => rfull_any (parseA (pre l)) W (parseA_ok _))
  rw [hle] at hto HZ
  clear hA h1 hle
  go_enter Tryz.func36, Tryz.ntmps36
  go_wp2_with fail
  go_loop [4, 5] (fun at_ i => ∃ k : Nat, k ≤ l.length ∧ i = .int .i64 ((k : Int) - 1) ∧ at_ = .int .i64 (atF l k : Nat)) (fun _ i => (intOf i + 1).toNat)
  case atStart => exact ⟨l.length, by omega, rfl, by rw [HE.out]⟩
  case round =>
    obtain ⟨k, hk, rfl, rfl⟩ := hrel
    by_cases hp : 0 < k
    · obtain ⟨j, rfl⟩ : ∃ j, k = j + 1 := ⟨k - 1, by omega⟩
      rw [show (((j + 1 : Nat) : Int) - 1) = (j : Int) from by omega]
      have hj : j < l.length := by omega
      have hjs : j < (⟨l.toArray⟩ : ByteArray).size := by rw [hsz]; exact hj
      have hget : (⟨l.toArray⟩ : ByteArray)[j] = l[j] := by simp [ByteArray.getElem_eq_getElem_data]
      by_cases hb : l[j] = 47
      · have HA := Lib.hid (atF_hit hj hb)
        obtain ⟨c1, c2⟩ := byte47 hj hb
        go_wp2_with fail
        go_round
        case rel => exact ⟨j, by omega, rfl, by rw [HA.out]⟩
        case measure => simp [intOf]
      · have HA := Lib.hid (atF_off hj hb)
        obtain ⟨c1, c2⟩ := byteno hj hb
        go_wp2_with fail
        go_round
        case rel => exact ⟨j, by omega, rfl, by rw [HA.out]⟩
        case measure => simp [intOf]
    · obtain rfl : k = 0 := by omega
      rw [HZ.out]
      go_wp2_with fail
      refine (PA.out _ (by omega)).mono ?_
      rintro e w2 ⟨rfl, hb2⟩
      have hb12 := hb2
      have zs : w.heap.size + 1 ≤ w2.heap.size := by have := hb12.size; simpa using this
      have z0 : w.heap.size < w2.heap.size := by omega
      clear zs
      go_wp2_with fail
      refine (FU.out _).mono ?_
      rintro e w3 ⟨rfl, hb3⟩
      have hb13 := low_trans (hb12.alloc hb12.size (.cells #[.bool (parseA (pre l)).v6, .int .u64 (parseA (pre l)).hi, .int .u64 (parseA (pre l)).lo] 36)) hb3
      obtain ⟨hc, hf⟩ := old hb13
      go_wp2_with fail
      exact bodyPost_ret (v := .tuple #[.agg #[.bool (fullN (parseA (pre l))).a.v6, .int .u64 (fullN (parseA (pre l))).a.hi, .int .u64 (fullN (parseA (pre l))).a.lo, .int .i64 (fullN (parseA (pre l))).n], .bool true]) (by simp [results, Tryz.results36, go_sem, hc]) rfl (parseN_mk E1.out E2.out rfl (((((((Below.refl _ _).alloc (Nat.le_refl _) _).trans (hb13.mono (by simp))).setCell (by simp) _).setCell (by simp) _).setCell (by simp) _).setCell (by simp) _))
set_option maxHeartbeats 4000000 in
theorem rparseN_D (l : List UInt8) (w : World) (hl : l.length < 4294966000) (hA : okA (pre l) = true) (h1 : slash l = true) (h3 : parB (post l) 128 = false) : Calls Tryz.prog 36 #[.string ⟨l.toArray⟩] w (ParseN l w) := by
  have hsz := size_mk l
  have PA := Lib.hid (rparseA_any (pre l))
  unfold ParseA at PA
  rw [hA] at PA
  have hpl := pre_le l
  have hql := post_le l
  have HZ := Lib.hid (atF_zero l)
  have HE := Lib.hid (atF_end l)
  have hto : ∀ W, (Instr.slice 9 (.string ⟨l.toArray⟩) none (some (.int .i64 ((pre l).length : Int))) none).run Tryz.prog W = .ok (.string ⟨(pre l).toArray⟩) W := by
    intro W
    rw [run_slice_string_h W 9 _ Tryz.underlying9 .i64 (pre l).length (by omega) (by rw [hsz]; omega), Int.toNat_natCast, slice_to, pre_take]
  have hlt := (slash_len l).1 h1
  have hfrom : ∀ W, (Instr.slice 9 (.string ⟨l.toArray⟩) (some (.int .i64 (((pre l).length : Int) + 1))) none none).run Tryz.prog W = .ok (.string ⟨(post l).toArray⟩) W := by
    intro W
    rw [show ((pre l).length : Int) + 1 = (((pre l).length + 1 : Nat) : Int) by omega, run_slice_string_l W 9 _ Tryz.underlying9 .i64 ((pre l).length + 1 : Nat) (by omega) (by rw [hsz]; omega), Int.toNat_natCast, hsz, slice_from l _ _ (Nat.le_refl _), post_drop]
  have PB := Lib.hid (fun W => rparse_list (post l) 128 W (by omega) (by omega) (by omega))
  unfold ParseEnd at PB
  have E2 := Lib.hid (okN_noB h1 h3)
  have E1 := Lib.hid (parseN_no E2.out)
  rw [h3] at PB
  clear hA h1 h3
  go_enter Tryz.func36, Tryz.ntmps36
  go_wp2_with fail
  go_loop [4, 5] (fun at_ i => ∃ k : Nat, k ≤ l.length ∧ i = .int .i64 ((k : Int) - 1) ∧ at_ = .int .i64 (atF l k : Nat)) (fun _ i => (intOf i + 1).toNat)
  case atStart => exact ⟨l.length, by omega, rfl, by rw [HE.out]⟩
  case round =>
    obtain ⟨k, hk, rfl, rfl⟩ := hrel
    by_cases hp : 0 < k
    · obtain ⟨j, rfl⟩ : ∃ j, k = j + 1 := ⟨k - 1, by omega⟩
      rw [show (((j + 1 : Nat) : Int) - 1) = (j : Int) from by omega]
      have hj : j < l.length := by omega
      have hjs : j < (⟨l.toArray⟩ : ByteArray).size := by rw [hsz]; exact hj
      have hget : (⟨l.toArray⟩ : ByteArray)[j] = l[j] := by simp [ByteArray.getElem_eq_getElem_data]
      by_cases hb : l[j] = 47
      · have HA := Lib.hid (atF_hit hj hb)
        obtain ⟨c1, c2⟩ := byte47 hj hb
        go_wp2_with fail
        go_round
        case rel => exact ⟨j, by omega, rfl, by rw [HA.out]⟩
        case measure => simp [intOf]
      · have HA := Lib.hid (atF_off hj hb)
        obtain ⟨c1, c2⟩ := byteno hj hb
        go_wp2_with fail
        go_round
        case rel => exact ⟨j, by omega, rfl, by rw [HA.out]⟩
        case measure => simp [intOf]
    · obtain rfl : k = 0 := by omega
      rw [HZ.out]
      go_wp2_with fail
      refine (PA.out _ (by omega)).mono ?_
      rintro e w2 ⟨rfl, hb2⟩
      have hb12 := hb2
      have zs : w.heap.size + 1 ≤ w2.heap.size := by have := hb12.size; simpa using this
      have z0 : w.heap.size < w2.heap.size := by omega
      clear zs
      go_wp2_with fail
      refine (PB.out _).mono ?_
      rintro e w3 ⟨rfl, hb3⟩
      have hb13 := low_trans (hb12.alloc hb12.size (.cells #[.bool (parseA (pre l)).v6, .int .u64 (parseA (pre l)).hi, .int .u64 (parseA (pre l)).lo] 36)) hb3
      obtain ⟨hc, hf⟩ := old hb13
      go_wp2_with fail
      exact bodyPost_ret (v := .tuple #[.agg #[.bool false, .int .u64 0, .int .u64 0, .int .i64 0], .bool false]) (by simp [results, Tryz.results36, go_sem, hc]) rfl (parseN_mk E1.out E2.out rfl (((((((Below.refl _ _).alloc (Nat.le_refl _) _).trans (hb13.mono (by simp))).setCell (by simp) _).setCell (by simp) _).setCell (by simp) _).setCell (by simp) _))
set_option maxHeartbeats 4000000 in
theorem rparseN_E (l : List UInt8) (w : World) (hl : l.length < 4294966000) (hA : okA (pre l) = true) (h1 : slash l = true) (h3 : parB (post l) 128 = true) (h4 : marked (pre l) = true) (h5 : bitsT l < 96) : Calls Tryz.prog 36 #[.string ⟨l.toArray⟩] w (ParseN l w) := by
  have hsz := size_mk l
  have PA := Lib.hid (rparseA_any (pre l))
  unfold ParseA at PA
  rw [hA] at PA
  have hpl := pre_le l
  have hql := post_le l
  have HZ := Lib.hid (atF_zero l)
  have HE := Lib.hid (atF_end l)
  have hto : ∀ W, (Instr.slice 9 (.string ⟨l.toArray⟩) none (some (.int .i64 ((pre l).length : Int))) none).run Tryz.prog W = .ok (.string ⟨(pre l).toArray⟩) W := by
    intro W
    rw [run_slice_string_h W 9 _ Tryz.underlying9 .i64 (pre l).length (by omega) (by rw [hsz]; omega), Int.toNat_natCast, slice_to, pre_take]
  have hlt := (slash_len l).1 h1
  have hfrom : ∀ W, (Instr.slice 9 (.string ⟨l.toArray⟩) (some (.int .i64 (((pre l).length : Int) + 1))) none none).run Tryz.prog W = .ok (.string ⟨(post l).toArray⟩) W := by
    intro W
    rw [show ((pre l).length : Int) + 1 = (((pre l).length + 1 : Nat) : Int) by omega, run_slice_string_l W 9 _ Tryz.underlying9 .i64 ((pre l).length + 1 : Nat) (by omega) (by rw [hsz]; omega), Int.toNat_natCast, hsz, slice_from l _ _ (Nat.le_refl _), post_drop]
  have PB := Lib.hid (fun W => rparse_list (post l) 128 W (by omega) (by omega) (by omega))
  unfold ParseEnd at PB
  obtain ⟨k, hk⟩ := Int.eq_ofNat_of_zero_le (bitsT_bd l).1
  have hk96 : k < 96 := by omega
  have E2 := Lib.hid (okN_mark h1 h3 h4).1
  have E1 : Hid (parseN l = ⟨⟨true, keep (hi6 (pre l)) (64 - k), keep (lo6 (pre l)) (128 - k)⟩, (k : Int)⟩) := Lib.hid (by
    rw [(okN_mark h1 h3 h4).2.1]
    unfold markN
    rw [if_neg (by omega), (marked_low _ _ (bitsT_bd l).1 h5).2, hk, Int.toNat_natCast]
    unfold firstA
    rw [show bitsA ⟨true, hi6 (pre l), lo6 (pre l)⟩ = 128 from rfl]
    simp only []
    rw [show 128 - k - 64 = 64 - k from by omega])
  have hm := marked_is h4
  have hv : (parseA (pre l)).v6 = false := by rw [hm.2.2.2.2]
  rw [h3, show parN (post l) 128 = bitsT l from rfl] at PB
  have hbt := bitsT_bd l
  have P6 := Lib.hid (rparse6_any (pre l))
  unfold Parse6 at P6
  rw [hm.1] at P6
  rw [hk] at PB
  have CU := Lib.hid (fun W => rcut_any (hi6 (pre l)) (lo6 (pre l)) k W (hi6_lt _) (lo6_lt _) (by omega))
  clear hA h1 h3 h4 h5 hm hk hbt
  go_enter Tryz.func36, Tryz.ntmps36
  go_wp2_with fail
  go_loop [4, 5] (fun at_ i => ∃ k : Nat, k ≤ l.length ∧ i = .int .i64 ((k : Int) - 1) ∧ at_ = .int .i64 (atF l k : Nat)) (fun _ i => (intOf i + 1).toNat)
  case atStart => exact ⟨l.length, by omega, rfl, by rw [HE.out]⟩
  case round =>
    obtain ⟨k, hk, rfl, rfl⟩ := hrel
    by_cases hp : 0 < k
    · obtain ⟨j, rfl⟩ : ∃ j, k = j + 1 := ⟨k - 1, by omega⟩
      rw [show (((j + 1 : Nat) : Int) - 1) = (j : Int) from by omega]
      have hj : j < l.length := by omega
      have hjs : j < (⟨l.toArray⟩ : ByteArray).size := by rw [hsz]; exact hj
      have hget : (⟨l.toArray⟩ : ByteArray)[j] = l[j] := by simp [ByteArray.getElem_eq_getElem_data]
      by_cases hb : l[j] = 47
      · have HA := Lib.hid (atF_hit hj hb)
        obtain ⟨c1, c2⟩ := byte47 hj hb
        go_wp2_with fail
        go_round
        case rel => exact ⟨j, by omega, rfl, by rw [HA.out]⟩
        case measure => simp [intOf]
      · have HA := Lib.hid (atF_off hj hb)
        obtain ⟨c1, c2⟩ := byteno hj hb
        go_wp2_with fail
        go_round
        case rel => exact ⟨j, by omega, rfl, by rw [HA.out]⟩
        case measure => simp [intOf]
    · obtain rfl : k = 0 := by omega
      rw [HZ.out]
      go_wp2_with fail
      refine (PA.out _ (by omega)).mono ?_
      rintro e w2 ⟨rfl, hb2⟩
      have hb12 := hb2
      have zs : w.heap.size + 1 ≤ w2.heap.size := by have := hb12.size; simpa using this
      have z0 : w.heap.size < w2.heap.size := by omega
      clear zs
      go_wp2_with fail
      refine (PB.out _).mono ?_
      rintro e w3 ⟨rfl, hb3⟩
      have hb13 := low_trans (hb12.alloc hb12.size (.cells #[.bool false, .int .u64 (parseA (pre l)).hi, .int .u64 (parseA (pre l)).lo] 36)) hb3
      go_wp2_with fail
      refine (P6.out _ (by omega)).mono ?_
      rintro e w4 ⟨rfl, hb4⟩
      have hb34 := low_trans hb3 hb4
      have hb14 := low_trans (hb12.alloc hb12.size (.cells #[.bool false, .int .u64 (parseA (pre l)).hi, .int .u64 (parseA (pre l)).lo] 36)) hb34
      have hx0 : w4.cell? ⟨w2.heap.size, 0, none⟩ = some (.bool false) := cells_left hb34 (by simp [go_sem])
      have hx1 : w4.cell? ⟨w2.heap.size, 1, none⟩ = some (.int .u64 (parseA (pre l)).hi) := cells_left hb34 (by simp [go_sem])
      have hx2 : w4.cell? ⟨w2.heap.size, 2, none⟩ = some (.int .u64 (parseA (pre l)).lo) := cells_left hb34 (by simp [go_sem])
      go_wp2_with fail
      refine (CU.out _).mono ?_
      rintro e w5 ⟨rfl, rfl⟩
      obtain ⟨hc, hf⟩ := old hb14
      go_wp2_with fail
      exact bodyPost_ret (v := .tuple #[.agg #[.bool true, .int .u64 (keep (hi6 (pre l)) (64 - k) : Nat), .int .u64 (keep (lo6 (pre l)) (128 - k) : Nat), .int .i64 (k : Nat)], .bool true]) (by simp [results, Tryz.results36, go_sem, hc]) rfl (parseN_mk E1.out E2.out rfl (((((((Below.refl _ _).alloc (Nat.le_refl _) _).trans (hb14.mono (by simp))).setCell (by simp) _).setCell (by simp) _).setCell (by simp) _).setCell (by simp) _))
set_option maxHeartbeats 4000000 in
theorem rparseN_E2 (l : List UInt8) (w : World) (hl : l.length < 4294966000) (hA : okA (pre l) = true) (h1 : slash l = true) (h3 : parB (post l) 128 = true) (h4 : marked (pre l) = true) (h5 : ¬ bitsT l < 96) : Calls Tryz.prog 36 #[.string ⟨l.toArray⟩] w (ParseN l w) := by
  have hsz := size_mk l
  have PA := Lib.hid (rparseA_any (pre l))
  unfold ParseA at PA
  rw [hA] at PA
  have hpl := pre_le l
  have hql := post_le l
  have HZ := Lib.hid (atF_zero l)
  have HE := Lib.hid (atF_end l)
  have hto : ∀ W, (Instr.slice 9 (.string ⟨l.toArray⟩) none (some (.int .i64 ((pre l).length : Int))) none).run Tryz.prog W = .ok (.string ⟨(pre l).toArray⟩) W := by
    intro W
    rw [run_slice_string_h W 9 _ Tryz.underlying9 .i64 (pre l).length (by omega) (by rw [hsz]; omega), Int.toNat_natCast, slice_to, pre_take]
  have hlt := (slash_len l).1 h1
  have hfrom : ∀ W, (Instr.slice 9 (.string ⟨l.toArray⟩) (some (.int .i64 (((pre l).length : Int) + 1))) none none).run Tryz.prog W = .ok (.string ⟨(post l).toArray⟩) W := by
    intro W
    rw [show ((pre l).length : Int) + 1 = (((pre l).length + 1 : Nat) : Int) by omega, run_slice_string_l W 9 _ Tryz.underlying9 .i64 ((pre l).length + 1 : Nat) (by omega) (by rw [hsz]; omega), Int.toNat_natCast, hsz, slice_from l _ _ (Nat.le_refl _), post_drop]
  have PB := Lib.hid (fun W => rparse_list (post l) 128 W (by omega) (by omega) (by omega))
  unfold ParseEnd at PB
  have E2 := Lib.hid (okN_mark h1 h3 h4).1
  have hm := marked_is h4
  have hv : (parseA (pre l)).v6 = false := by rw [hm.2.2.2.2]
  have E1 : Hid (parseN l = makeN (parseA (pre l)) (bitsT l - 96)) := Lib.hid (by
    rw [(okN_mark h1 h3 h4).2.1]
    unfold markN
    rw [if_pos (by omega), hm.2.2.2.1])
  have EM := marked_make h4 (i := bitsT l) (by omega) (bitsT_bd l).2
  rw [h3, show parN (post l) 128 = bitsT l from rfl] at PB
  have hbt := bitsT_bd l
  have P6 := Lib.hid (rparse6_any (pre l))
  unfold Parse6 at P6
  rw [hm.1] at P6
  have MK := Lib.hid (fun W => rmake_any (parseA (pre l)) (bitsT l - 96) W (parseA_ok _) (by omega) (by omega))
  rw [EM, hv] at MK
  clear hA h1 h3 h4 hm EM
  go_enter Tryz.func36, Tryz.ntmps36
  go_wp2_with fail
  go_loop [4, 5] (fun at_ i => ∃ k : Nat, k ≤ l.length ∧ i = .int .i64 ((k : Int) - 1) ∧ at_ = .int .i64 (atF l k : Nat)) (fun _ i => (intOf i + 1).toNat)
  case atStart => exact ⟨l.length, by omega, rfl, by rw [HE.out]⟩
  case round =>
    obtain ⟨k, hk, rfl, rfl⟩ := hrel
    by_cases hp : 0 < k
    · obtain ⟨j, rfl⟩ : ∃ j, k = j + 1 := ⟨k - 1, by omega⟩
      rw [show (((j + 1 : Nat) : Int) - 1) = (j : Int) from by omega]
      have hj : j < l.length := by omega
      have hjs : j < (⟨l.toArray⟩ : ByteArray).size := by rw [hsz]; exact hj
      have hget : (⟨l.toArray⟩ : ByteArray)[j] = l[j] := by simp [ByteArray.getElem_eq_getElem_data]
      by_cases hb : l[j] = 47
      · have HA := Lib.hid (atF_hit hj hb)
        obtain ⟨c1, c2⟩ := byte47 hj hb
        go_wp2_with fail
        go_round
        case rel => exact ⟨j, by omega, rfl, by rw [HA.out]⟩
        case measure => simp [intOf]
      · have HA := Lib.hid (atF_off hj hb)
        obtain ⟨c1, c2⟩ := byteno hj hb
        go_wp2_with fail
        go_round
        case rel => exact ⟨j, by omega, rfl, by rw [HA.out]⟩
        case measure => simp [intOf]
    · obtain rfl : k = 0 := by omega
      rw [HZ.out]
      go_wp2_with fail
      refine (PA.out _ (by omega)).mono ?_
      rintro e w2 ⟨rfl, hb2⟩
      have hb12 := hb2
      have zs : w.heap.size + 1 ≤ w2.heap.size := by have := hb12.size; simpa using this
      have z0 : w.heap.size < w2.heap.size := by omega
      clear zs
      go_wp2_with fail
      refine (PB.out _).mono ?_
      rintro e w3 ⟨rfl, hb3⟩
      have hb13 := low_trans (hb12.alloc hb12.size (.cells #[.bool false, .int .u64 (parseA (pre l)).hi, .int .u64 (parseA (pre l)).lo] 36)) hb3
      go_wp2_with fail
      refine (P6.out _ (by omega)).mono ?_
      rintro e w4 ⟨rfl, hb4⟩
      have hb34 := low_trans hb3 hb4
      have hb14 := low_trans (hb12.alloc hb12.size (.cells #[.bool false, .int .u64 (parseA (pre l)).hi, .int .u64 (parseA (pre l)).lo] 36)) hb34
      have hx0 : w4.cell? ⟨w2.heap.size, 0, none⟩ = some (.bool false) := cells_left hb34 (by simp [go_sem])
      have hx1 : w4.cell? ⟨w2.heap.size, 1, none⟩ = some (.int .u64 (parseA (pre l)).hi) := cells_left hb34 (by simp [go_sem])
      have hx2 : w4.cell? ⟨w2.heap.size, 2, none⟩ = some (.int .u64 (parseA (pre l)).lo) := cells_left hb34 (by simp [go_sem])
      go_wp2_with fail
      refine (MK.out _).mono ?_
      rintro e w5 ⟨rfl, hb5⟩
      have hb15 := low_trans hb14 hb5
      obtain ⟨hc, hf⟩ := old hb15
      go_wp2_with fail
      exact bodyPost_ret (v := .tuple #[.agg #[.bool (makeN (parseA (pre l)) (bitsT l - 96)).a.v6, .int .u64 (makeN (parseA (pre l)) (bitsT l - 96)).a.hi, .int .u64 (makeN (parseA (pre l)) (bitsT l - 96)).a.lo, .int .i64 (makeN (parseA (pre l)) (bitsT l - 96)).n], .bool true]) (by simp [results, Tryz.results36, go_sem, hc]) rfl (parseN_mk E1.out E2.out rfl (((((((Below.refl _ _).alloc (Nat.le_refl _) _).trans (hb15.mono (by simp))).setCell (by simp) _).setCell (by simp) _).setCell (by simp) _).setCell (by simp) _))
set_option maxHeartbeats 4000000 in
theorem rparseN_F (l : List UInt8) (w : World) (hl : l.length < 4294966000) (hA : okA (pre l) = true) (h1 : slash l = true) (h3 : parB (post l) 128 = true) (h6 : ok6 (pre l) = false) : Calls Tryz.prog 36 #[.string ⟨l.toArray⟩] w (ParseN l w) := by
  have hsz := size_mk l
  have PA := Lib.hid (rparseA_any (pre l))
  unfold ParseA at PA
  rw [hA] at PA
  have hpl := pre_le l
  have hql := post_le l
  have HZ := Lib.hid (atF_zero l)
  have HE := Lib.hid (atF_end l)
  have hto : ∀ W, (Instr.slice 9 (.string ⟨l.toArray⟩) none (some (.int .i64 ((pre l).length : Int))) none).run Tryz.prog W = .ok (.string ⟨(pre l).toArray⟩) W := by
    intro W
    rw [run_slice_string_h W 9 _ Tryz.underlying9 .i64 (pre l).length (by omega) (by rw [hsz]; omega), Int.toNat_natCast, slice_to, pre_take]
  have hlt := (slash_len l).1 h1
  have hfrom : ∀ W, (Instr.slice 9 (.string ⟨l.toArray⟩) (some (.int .i64 (((pre l).length : Int) + 1))) none none).run Tryz.prog W = .ok (.string ⟨(post l).toArray⟩) W := by
    intro W
    rw [show ((pre l).length : Int) + 1 = (((pre l).length + 1 : Nat) : Int) by omega, run_slice_string_l W 9 _ Tryz.underlying9 .i64 ((pre l).length + 1 : Nat) (by omega) (by rw [hsz]; omega), Int.toNat_natCast, hsz, slice_from l _ _ (Nat.le_refl _), post_drop]
  have PB := Lib.hid (fun W => rparse_list (post l) 128 W (by omega) (by omega) (by omega))
  unfold ParseEnd at PB
  have E2 := Lib.hid (okN_make hA h1 h3 (by unfold marked; rw [h6]; rfl)).1
  have E1 := Lib.hid (okN_make hA h1 h3 (by unfold marked; rw [h6]; rfl)).2
  rw [h3, show parN (post l) 128 = bitsT l from rfl] at PB
  have hbt := bitsT_bd l
  have P6 := Lib.hid (rparse6_any (pre l))
  unfold Parse6 at P6
  rw [h6] at P6
  have MK := Lib.hid (fun W => rmake_any (parseA (pre l)) (bitsT l) W (parseA_ok _) (by omega) (by omega))
  clear hA h1 h3 h6
  go_enter Tryz.func36, Tryz.ntmps36
  go_wp2_with fail
  go_loop [4, 5] (fun at_ i => ∃ k : Nat, k ≤ l.length ∧ i = .int .i64 ((k : Int) - 1) ∧ at_ = .int .i64 (atF l k : Nat)) (fun _ i => (intOf i + 1).toNat)
  case atStart => exact ⟨l.length, by omega, rfl, by rw [HE.out]⟩
  case round =>
    obtain ⟨k, hk, rfl, rfl⟩ := hrel
    by_cases hp : 0 < k
    · obtain ⟨j, rfl⟩ : ∃ j, k = j + 1 := ⟨k - 1, by omega⟩
      rw [show (((j + 1 : Nat) : Int) - 1) = (j : Int) from by omega]
      have hj : j < l.length := by omega
      have hjs : j < (⟨l.toArray⟩ : ByteArray).size := by rw [hsz]; exact hj
      have hget : (⟨l.toArray⟩ : ByteArray)[j] = l[j] := by simp [ByteArray.getElem_eq_getElem_data]
      by_cases hb : l[j] = 47
      · have HA := Lib.hid (atF_hit hj hb)
        obtain ⟨c1, c2⟩ := byte47 hj hb
        go_wp2_with fail
        go_round
        case rel => exact ⟨j, by omega, rfl, by rw [HA.out]⟩
        case measure => simp [intOf]
      · have HA := Lib.hid (atF_off hj hb)
        obtain ⟨c1, c2⟩ := byteno hj hb
        go_wp2_with fail
        go_round
        case rel => exact ⟨j, by omega, rfl, by rw [HA.out]⟩
        case measure => simp [intOf]
    · obtain rfl : k = 0 := by omega
      rw [HZ.out]
      go_wp2_with fail
      refine (PA.out _ (by omega)).mono ?_
      rintro e w2 ⟨rfl, hb2⟩
      have hb12 := hb2
      have zs : w.heap.size + 1 ≤ w2.heap.size := by have := hb12.size; simpa using this
      have z0 : w.heap.size < w2.heap.size := by omega
      clear zs
      go_wp2_with fail
      refine (PB.out _).mono ?_
      rintro e w3 ⟨rfl, hb3⟩
      have hb13 := low_trans (hb12.alloc hb12.size (.cells #[.bool (parseA (pre l)).v6, .int .u64 (parseA (pre l)).hi, .int .u64 (parseA (pre l)).lo] 36)) hb3
      go_wp2_with fail
      refine (P6.out _ (by omega)).mono ?_
      rintro e w4 ⟨rfl, hb4⟩
      have hb34 := low_trans hb3 hb4
      have hb14 := low_trans (hb12.alloc hb12.size (.cells #[.bool (parseA (pre l)).v6, .int .u64 (parseA (pre l)).hi, .int .u64 (parseA (pre l)).lo] 36)) hb34
      have hx0 : w4.cell? ⟨w2.heap.size, 0, none⟩ = some (.bool (parseA (pre l)).v6) := cells_left hb34 (by simp [go_sem])
      have hx1 : w4.cell? ⟨w2.heap.size, 1, none⟩ = some (.int .u64 (parseA (pre l)).hi) := cells_left hb34 (by simp [go_sem])
      have hx2 : w4.cell? ⟨w2.heap.size, 2, none⟩ = some (.int .u64 (parseA (pre l)).lo) := cells_left hb34 (by simp [go_sem])
      go_wp2_with fail
      refine (MK.out _).mono ?_
      rintro e w5 ⟨rfl, hb5⟩
      have hb15 := low_trans hb14 hb5
      obtain ⟨hc, hf⟩ := old hb15
      go_wp2_with fail
      exact bodyPost_ret (v := .tuple #[.agg #[.bool (makeN (parseA (pre l)) (bitsT l)).a.v6, .int .u64 (makeN (parseA (pre l)) (bitsT l)).a.hi, .int .u64 (makeN (parseA (pre l)) (bitsT l)).a.lo, .int .i64 (makeN (parseA (pre l)) (bitsT l)).n], .bool (makeB (parseA (pre l)) (bitsT l))]) (by simp [results, Tryz.results36, go_sem, hc]) rfl (parseN_mk E1.out E2.out rfl (((((((Below.refl _ _).alloc (Nat.le_refl _) _).trans (hb15.mono (by simp))).setCell (by simp) _).setCell (by simp) _).setCell (by simp) _).setCell (by simp) _))
set_option maxHeartbeats 4000000 in
theorem rparseN_G (l : List UInt8) (w : World) (hl : l.length < 4294966000) (hA : okA (pre l) = true) (h1 : slash l = true) (h3 : parB (post l) 128 = true) (h6 : ok6 (pre l) = true) (hv : (parseA (pre l)).v6 = true) : Calls Tryz.prog 36 #[.string ⟨l.toArray⟩] w (ParseN l w) := by
  have hsz := size_mk l
  have PA := Lib.hid (rparseA_any (pre l))
  unfold ParseA at PA
  rw [hA] at PA
  have hpl := pre_le l
  have hql := post_le l
  have HZ := Lib.hid (atF_zero l)
  have HE := Lib.hid (atF_end l)
  have hto : ∀ W, (Instr.slice 9 (.string ⟨l.toArray⟩) none (some (.int .i64 ((pre l).length : Int))) none).run Tryz.prog W = .ok (.string ⟨(pre l).toArray⟩) W := by
    intro W
    rw [run_slice_string_h W 9 _ Tryz.underlying9 .i64 (pre l).length (by omega) (by rw [hsz]; omega), Int.toNat_natCast, slice_to, pre_take]
  have hlt := (slash_len l).1 h1
  have hfrom : ∀ W, (Instr.slice 9 (.string ⟨l.toArray⟩) (some (.int .i64 (((pre l).length : Int) + 1))) none none).run Tryz.prog W = .ok (.string ⟨(post l).toArray⟩) W := by
    intro W
    rw [show ((pre l).length : Int) + 1 = (((pre l).length + 1 : Nat) : Int) by omega, run_slice_string_l W 9 _ Tryz.underlying9 .i64 ((pre l).length + 1 : Nat) (by omega) (by rw [hsz]; omega), Int.toNat_natCast, hsz, slice_from l _ _ (Nat.le_refl _), post_drop]
  have PB := Lib.hid (fun W => rparse_list (post l) 128 W (by omega) (by omega) (by omega))
  unfold ParseEnd at PB
  have E2 := Lib.hid (okN_make hA h1 h3 (by unfold marked; rw [hv]; simp)).1
  have E1 := Lib.hid (okN_make hA h1 h3 (by unfold marked; rw [hv]; simp)).2
  rw [h3, show parN (post l) 128 = bitsT l from rfl] at PB
  have hbt := bitsT_bd l
  have P6 := Lib.hid (rparse6_any (pre l))
  unfold Parse6 at P6
  rw [h6] at P6
  have MK := Lib.hid (fun W => rmake_any (parseA (pre l)) (bitsT l) W (parseA_ok _) (by omega) (by omega))
  clear hA h1 h3 h6
  rw [hv] at MK
  go_enter Tryz.func36, Tryz.ntmps36
  go_wp2_with fail
  go_loop [4, 5] (fun at_ i => ∃ k : Nat, k ≤ l.length ∧ i = .int .i64 ((k : Int) - 1) ∧ at_ = .int .i64 (atF l k : Nat)) (fun _ i => (intOf i + 1).toNat)
  case atStart => exact ⟨l.length, by omega, rfl, by rw [HE.out]⟩
  case round =>
    obtain ⟨k, hk, rfl, rfl⟩ := hrel
    by_cases hp : 0 < k
    · obtain ⟨j, rfl⟩ : ∃ j, k = j + 1 := ⟨k - 1, by omega⟩
      rw [show (((j + 1 : Nat) : Int) - 1) = (j : Int) from by omega]
      have hj : j < l.length := by omega
      have hjs : j < (⟨l.toArray⟩ : ByteArray).size := by rw [hsz]; exact hj
      have hget : (⟨l.toArray⟩ : ByteArray)[j] = l[j] := by simp [ByteArray.getElem_eq_getElem_data]
      by_cases hb : l[j] = 47
      · have HA := Lib.hid (atF_hit hj hb)
        obtain ⟨c1, c2⟩ := byte47 hj hb
        go_wp2_with fail
        go_round
        case rel => exact ⟨j, by omega, rfl, by rw [HA.out]⟩
        case measure => simp [intOf]
      · have HA := Lib.hid (atF_off hj hb)
        obtain ⟨c1, c2⟩ := byteno hj hb
        go_wp2_with fail
        go_round
        case rel => exact ⟨j, by omega, rfl, by rw [HA.out]⟩
        case measure => simp [intOf]
    · obtain rfl : k = 0 := by omega
      rw [HZ.out]
      go_wp2_with fail
      refine (PA.out _ (by omega)).mono ?_
      rintro e w2 ⟨rfl, hb2⟩
      have hb12 := hb2
      have zs : w.heap.size + 1 ≤ w2.heap.size := by have := hb12.size; simpa using this
      have z0 : w.heap.size < w2.heap.size := by omega
      clear zs
      go_wp2_with fail
      refine (PB.out _).mono ?_
      rintro e w3 ⟨rfl, hb3⟩
      have hb13 := low_trans (hb12.alloc hb12.size (.cells #[.bool true, .int .u64 (parseA (pre l)).hi, .int .u64 (parseA (pre l)).lo] 36)) hb3
      go_wp2_with fail
      refine (P6.out _ (by omega)).mono ?_
      rintro e w4 ⟨rfl, hb4⟩
      have hb34 := low_trans hb3 hb4
      have hb14 := low_trans (hb12.alloc hb12.size (.cells #[.bool true, .int .u64 (parseA (pre l)).hi, .int .u64 (parseA (pre l)).lo] 36)) hb34
      have hx0 : w4.cell? ⟨w2.heap.size, 0, none⟩ = some (.bool true) := cells_left hb34 (by simp [go_sem])
      have hx1 : w4.cell? ⟨w2.heap.size, 1, none⟩ = some (.int .u64 (parseA (pre l)).hi) := cells_left hb34 (by simp [go_sem])
      have hx2 : w4.cell? ⟨w2.heap.size, 2, none⟩ = some (.int .u64 (parseA (pre l)).lo) := cells_left hb34 (by simp [go_sem])
      go_wp2_with fail
      refine (MK.out _).mono ?_
      rintro e w5 ⟨rfl, hb5⟩
      have hb15 := low_trans hb14 hb5
      obtain ⟨hc, hf⟩ := old hb15
      go_wp2_with fail
      exact bodyPost_ret (v := .tuple #[.agg #[.bool (makeN (parseA (pre l)) (bitsT l)).a.v6, .int .u64 (makeN (parseA (pre l)) (bitsT l)).a.hi, .int .u64 (makeN (parseA (pre l)) (bitsT l)).a.lo, .int .i64 (makeN (parseA (pre l)) (bitsT l)).n], .bool (makeB (parseA (pre l)) (bitsT l))]) (by simp [results, Tryz.results36, go_sem, hc]) rfl (parseN_mk E1.out E2.out rfl (((((((Below.refl _ _).alloc (Nat.le_refl _) _).trans (hb15.mono (by simp))).setCell (by simp) _).setCell (by simp) _).setCell (by simp) _).setCell (by simp) _))
theorem rparseN_any (l : List UInt8) (w : World) (hl : l.length < 4294966000) : Calls Tryz.prog 36 #[.string ⟨l.toArray⟩] w (ParseN l w) := by
  cases hA : okA (pre l)
  · exact rparseN_A l w hl hA
  · cases h1 : slash l
    · exact rparseN_C l w hl hA h1
    · cases h3 : parB (post l) 128
      · exact rparseN_D l w hl hA h1 h3
      · cases h6 : ok6 (pre l)
        · exact rparseN_F l w hl hA h1 h3 h6
        · cases hv : (parseA (pre l)).v6
          · have h4 : marked (pre l) = true := by unfold marked; rw [h6, hv]; rfl
            by_cases h5 : bitsT l < 96
            · exact rparseN_E l w hl hA h1 h3 h4 h5
            · exact rparseN_E2 l w hl hA h1 h3 h4 h5
          · exact rparseN_G l w hl hA h1 h3 h6 hv
end Go.Proofs.YtefkolkagebffaaGreatDoor.Ci
