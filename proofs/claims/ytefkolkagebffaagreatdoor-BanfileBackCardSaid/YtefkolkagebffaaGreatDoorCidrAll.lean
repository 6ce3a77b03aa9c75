/- Contracts of package cidr. -/
import Derived.Test.YtefkolkagebffaaGreatDoorCidrLow
import Derived.Test.YtefkolkagebffaaGreatDoorCidrFull
namespace Go.Proofs.YtefkolkagebffaaGreatDoor.Ci
set_option maxRecDepth 100000
open Go.ChangeShapes Go.WideShapes Go.ChangeAt Go.RowKit
open Dec Words V4 V6 Ad
set_option linter.unusedVariables false
theorem full_any (a : Adr) (w : World) (ha : a.ok) :
    Calls Tryz.prog 51 #[.agg #[.bool a.v6, .int .u64 a.hi, .int .u64 a.lo]] w fun e w' => e = .returned (.agg #[.bool (fullN a).a.v6, .int .u64 (fullN a).a.hi, .int .u64 (fullN a).a.lo, .int .i64 (fullN a).n]) ∧ Below w.heap.size w w' :=
  full_of a w ha fun W => by have hb := bitsA_two a; exact make_any a (bitsA a : Int) W ha (by omega) (by omega)
end Go.Proofs.YtefkolkagebffaaGreatDoor.Ci
namespace Go.Proofs.YtefkolkagebffaaGreatDoor.Ci
set_option maxRecDepth 100000
open Go.ChangeShapes Go.WideShapes Go.ChangeAt Go.RowKit
open Dec Words V4 V6 Ad
set_option linter.unusedVariables false
theorem cut_pre : ∀ l : List UInt8, cut 47 l = pre l :: (if slash l then cut 47 (post l) else [])
  | [] => by simp [cut, pre, slash]
  | b :: l => by
    by_cases e : b = 47
    · subst e
      rw [cut_hit]
      have h1 : pre (47 :: l) = [] := by simp [pre]
      have h2 : slash (47 :: l) = true := by simp [slash]
      have h3 : post (47 :: l) = l := by simp [post]
      rw [h1, h2, h3]; simp
    · obtain ⟨x, r, e1, e2⟩ := cut_off e l
      have ih := cut_pre l
      rw [e1] at ih
      have h1 : pre (b :: l) = b :: pre l := by unfold pre; rw [List.takeWhile_cons, if_pos (by simpa using e)]
      have h2 : slash (b :: l) = slash l := by unfold slash; rw [List.contains_cons]; simp [show (47 : UInt8) ≠ b from fun h => e h.symm]
      have h3 : post (b :: l) = post l := by unfold post; rw [List.dropWhile_cons, if_pos (by simpa using e)]
      rw [e2, h1, h2, h3]
      injection ih with i1 i2
      rw [i1, i2]
theorem pre_le (l : List UInt8) : (pre l).length ≤ l.length := by unfold pre; exact (List.takeWhile_sublist _).length_le
theorem post_le (l : List UInt8) : (post l).length ≤ l.length := by
  unfold post
  rw [List.length_drop]
  have := (List.dropWhile_sublist (l := l) (· != 47)).length_le
  omega
theorem cut_none_slash {l : List UInt8} (h : slash l = false) : cut 47 l = [pre l] := by rw [cut_pre, h]; rfl
theorem cut_one_slash {l : List UInt8} (h : slash l = true) (h2 : slash (post l) = false) : cut 47 l = [pre l, post l] := by
  rw [cut_pre, h, if_pos rfl, cut_pre (post l), h2]
  have h47 : (47 : UInt8) ∉ post l := by unfold slash at h2; simpa using h2
  rw [(pre_none h47).1]; rfl
theorem cut_more_slash {l : List UInt8} (h : slash l = true) (h2 : slash (post l) = true) : 2 < (cut 47 l).length := by
  rw [cut_pre, h, if_pos rfl, cut_pre (post l), h2, if_pos rfl, List.length_cons, List.length_cons]
  have := List.length_pos_iff.2 (cut_ne 47 (post (post l)))
  omega
theorem parB_slash {l : List UInt8} (h : slash l = true) (most : Int) : parB l most = false := parB_bad (c := 47) most (by unfold slash at h; simpa using h) (by decide)
def markN (hi lo : Nat) (i : Int) : Net := if 96 ≤ i then makeN (v6A hi lo) (i - 96) else makeN (firstA ⟨true, hi, lo⟩ i.toNat) i
def markB (hi lo : Nat) (i : Int) : Bool := if 96 ≤ i then makeB (v6A hi lo) (i - 96) else makeB (firstA ⟨true, hi, lo⟩ i.toNat) i
def ParseN (l : List UInt8) (w : World) (e : Ending) (w' : World) : Prop := e = .returned (.tuple #[.agg #[.bool (parseN l).a.v6, .int .u64 (parseN l).a.hi, .int .u64 (parseN l).a.lo, .int .i64 (parseN l).n], .bool (okN l)]) ∧ Below w.heap.size w w'
theorem parseN_mk {l : List UInt8} {w w' : World} {e : Ending} {n : Net} {b : Bool} (hn : parseN l = n) (hb : okN l = b) (he : e = .returned (.tuple #[.agg #[.bool n.a.v6, .int .u64 n.a.hi, .int .u64 n.a.lo, .int .i64 n.n], .bool b])) (h : Below w.heap.size w w') : ParseN l w e w' := by
  subst hn hb; exact ⟨he, h⟩
theorem okN_noA {l : List UInt8} (h : okA (pre l) = false) : okN l = false := by unfold okN; rw [h]; rfl
theorem okN_noB {l : List UInt8} (h : slash l = true) (h2 : parB (post l) 128 = false) : okN l = false := by unfold okN; rw [h, h2]; simp
theorem okN_full {l : List UInt8} (h : okA (pre l) = true) (h2 : slash l = false) : okN l = true ∧ parseN l = fullN (parseA (pre l)) := by
  have e : okN l = true := by unfold okN; rw [h, h2]; rfl
  refine ⟨e, ?_⟩
  unfold parseN; rw [e, h2]; rfl
theorem okN_mark {l : List UInt8} (h : slash l = true) (h2 : parB (post l) 128 = true) (h3 : marked (pre l) = true) : okN l = true ∧ parseN l = markN (hi6 (pre l)) (lo6 (pre l)) (bitsT l) ∧ markB (hi6 (pre l)) (lo6 (pre l)) (bitsT l) = true := by
  have hb := bitsT_bd l
  have h1 : okA (pre l) = true := by unfold okA; rw [(marked_is h3).1]; simp
  have e : okN l = true := (okN_iff l).2 ⟨h1, fun _ => ⟨h2, fun hm => by rw [h3] at hm; cases hm⟩⟩
  have m := marked_is h3
  refine ⟨e, ?_, ?_⟩
  · unfold parseN markN
    rw [if_pos e, if_pos h, if_pos h3]
    by_cases h96 : bitsT l < 96
    · rw [if_pos h96, if_neg (by omega), (marked_low _ _ hb.1 h96).2]
    · rw [if_neg h96, if_pos (by omega), m.2.2.2.1]
  · unfold markB
    by_cases h96 : bitsT l < 96
    · rw [if_neg (by omega)]; exact (marked_low _ _ hb.1 h96).1
    · rw [if_pos (by omega), ← m.2.2.2.1]; exact marked_make h3 (by omega) hb.2
theorem okN_make {l : List UInt8} (h1 : okA (pre l) = true) (h : slash l = true) (h2 : parB (post l) 128 = true) (h3 : marked (pre l) = false) : okN l = makeB (parseA (pre l)) (bitsT l) ∧ parseN l = makeN (parseA (pre l)) (bitsT l) := by
  have e : okN l = makeB (parseA (pre l)) (bitsT l) := by unfold okN; rw [h1, h, h2, h3]; simp
  refine ⟨e, ?_⟩
  cases hm : makeB (parseA (pre l)) (bitsT l)
  · rw [parseN_no (e.trans hm)]; unfold makeN; rw [hm]; rfl
  · unfold parseN; rw [e, hm, h, h3]; rfl
set_option maxHeartbeats 2000000 in
theorem ofMarked_any (hi lo : Nat) (i : Int) (w : World) (h1 : hi < 18446744073709551616) (h2 : lo < 18446744073709551616) (i1 : 0 ≤ i) (i2 : i ≤ 128) :
    Calls Tryz.prog 53 #[.int .u64 hi, .int .u64 lo, .int .i64 i] w fun e w' => e = .returned (.tuple #[.agg #[.bool (markN hi lo i).a.v6, .int .u64 (markN hi lo i).a.hi, .int .u64 (markN hi lo i).a.lo, .int .i64 (markN hi lo i).n], .bool (markB hi lo i)]) ∧ Below w.heap.size w w' := by
  by_cases h96 : 96 ≤ i
  · have EN : markN hi lo i = makeN (v6A hi lo) (i - 96) := by unfold markN; rw [if_pos h96]
    have EB : markB hi lo i = makeB (v6A hi lo) (i - 96) := by unfold markB; rw [if_pos h96]
    rw [EN, EB]
    clear EN EB
    have V := Lib.hid (fun W => v6_any hi lo W h1 h2)
    have MK := Lib.hid (fun W => make_any (v6A hi lo) (i - 96) W (v6A_ok h1 h2) (by omega) (by omega))
    go_enter Tryz.func53, Tryz.ntmps53
    go_wp2_with fail
    refine (V.out _).mono ?_
    rintro e w1 ⟨rfl, hb1⟩
    go_wp2_with fail
    refine (MK.out _).mono ?_
    rintro e w2 ⟨rfl, hb2⟩
    have hb12 := low_trans hb1 hb2
    obtain ⟨hc, hf⟩ := old hb12
    go_wp2_with fail
    exact bodyPost_ret (v := .tuple #[.agg #[.bool (makeN (v6A hi lo) (i - 96)).a.v6, .int .u64 (makeN (v6A hi lo) (i - 96)).a.hi, .int .u64 (makeN (v6A hi lo) (i - 96)).a.lo, .int .i64 (makeN (v6A hi lo) (i - 96)).n], .bool (makeB (v6A hi lo) (i - 96))]) (by simp [results, Tryz.results53, go_sem, hc]) rfl ⟨rfl, ((((((Below.refl _ _).alloc (Nat.le_refl _) _).trans (hb12.mono (by simp))).setCell (by simp) _).setCell (by simp) _).setCell (by simp) _).setCell (by simp) _⟩
  · have EN : markN hi lo i = makeN (firstA ⟨true, hi, lo⟩ i.toNat) i := by unfold markN; rw [if_neg h96]
    have EB : markB hi lo i = makeB (firstA ⟨true, hi, lo⟩ i.toNat) i := by unfold markB; rw [if_neg h96]
    rw [EN, EB]
    clear EN EB
    obtain ⟨k, rfl⟩ := Int.eq_ofNat_of_zero_le i1
    rw [Int.toNat_natCast]
    have hk : k ≤ 128 := by omega
    have hok : (⟨true, hi, lo⟩ : Adr).ok := ⟨h1, h2⟩
    have FI := Lib.hid (fun W => first_any ⟨true, hi, lo⟩ k W hok hk)
    have MK := Lib.hid (fun W => make_any (firstA ⟨true, hi, lo⟩ k) (k : Int) W (firstA_ok hok k) (by omega) (by omega))
    clear hok
    go_enter Tryz.func53, Tryz.ntmps53
    go_wp2_with fail
    refine (FI.out _).mono ?_
    rintro e w1 ⟨rfl, hb1⟩
    go_wp2_with fail
    refine (MK.out _).mono ?_
    rintro e w2 ⟨rfl, hb2⟩
    have hb12 := low_trans hb1 hb2
    obtain ⟨hc, hf⟩ := old hb12
    go_wp2_with fail
    exact bodyPost_ret (v := .tuple #[.agg #[.bool (makeN (firstA ⟨true, hi, lo⟩ k) (k : Int)).a.v6, .int .u64 (makeN (firstA ⟨true, hi, lo⟩ k) (k : Int)).a.hi, .int .u64 (makeN (firstA ⟨true, hi, lo⟩ k) (k : Int)).a.lo, .int .i64 (makeN (firstA ⟨true, hi, lo⟩ k) (k : Int)).n], .bool (makeB (firstA ⟨true, hi, lo⟩ k) (k : Int))]) (by simp [results, Tryz.results53, go_sem, hc]) rfl ⟨rfl, ((((((Below.refl _ _).alloc (Nat.le_refl _) _).trans (hb12.mono (by simp))).setCell (by simp) _).setCell (by simp) _).setCell (by simp) _).setCell (by simp) _⟩
theorem Txts.cons {w : World} {v : Value} {x : List UInt8} {ls : List (List UInt8)} (h : Txts w v (x :: ls)) : ∃ b o c, v = .slice (some ⟨b, o, none⟩) (x :: ls).length c ∧ b < w.heap.size ∧ ls.length + 1 ≤ c ∧ w.cell? ⟨b, o, none⟩ = some (.string ⟨x.toArray⟩) ∧ ∀ y, ls[0]? = some y → w.cell? ⟨b, o + 1, none⟩ = some (.string ⟨y.toArray⟩) := by
  obtain ⟨A, c, rfl, hcap, h⟩ := h
  obtain ⟨b, o, rfl, hb, hc⟩ := h (by simp)
  refine ⟨b, o, c, rfl, hb, by simpa using hcap, by have := hc 0 (by simp); simpa only [Nat.add_zero, List.getElem_cons_zero] using this, fun y hy => ?_⟩
  obtain ⟨hlt, he⟩ := List.getElem?_eq_some_iff.1 hy
  rw [hc 1 (by simp; omega)]
  simp [he]
set_option maxHeartbeats 2000000 in
theorem parseN_A (l : List UInt8) (w : World) (hl : l.length < 4294966000) (hL : Lens w) (hA : okA (pre l) = false) : Calls Tryz.prog 30 #[.string ⟨l.toArray⟩] w (ParseN l w) := by
  have PA := Lib.hid (parseA_any (pre l))
  unfold ParseA at PA
  rw [hA] at PA
  have hpl := pre_le l
  have hql := post_le l
  have E2 := Lib.hid (okN_noA hA)
  have E1 := Lib.hid (parseN_no E2.out)
  obtain ⟨r, hr⟩ : ∃ r, r = (if slash l then cut 47 (post l) else []) := ⟨_, rfl⟩
  have HCUT : Hid (cut 47 l = pre l :: r) := Lib.hid (by rw [hr]; exact cut_pre l)
  clear hr hA
  have SP : Hid (∀ W, Calls Tryz.prog 29 #[.string ⟨l.toArray⟩, .int .u8 47] W (RetTxts (pre l :: r) W)) := Lib.hid fun W => by have h := split_list l 47 W (by omega); rwa [HCUT.out] at h
  go_enter Tryz.func30, Tryz.ntmps30
  go_wp2_with fail
  refine (SP.out _).mono ?_
  rintro e w1 ⟨v, rfl, hv, hb1⟩
  obtain ⟨b, o, c, rfl, hbl, hcap, hc0, hc1⟩ := Txts.cons hv
  rw [List.length_cons] at *
  generalize r.length = m at *
  clear hc1
  have hL1 := (hL.below ((Below.refl _ _).alloc (Nat.le_refl _) _)).below hb1
  clear hv
  go_wp2_with fail
  refine (PA.out _ (by omega) hL1).mono ?_
  rintro e w2 ⟨rfl, hb2⟩
  have hb12 := low_trans hb1 hb2
  have hL2 := hL1.below hb2
  have zs : w.heap.size + 1 ≤ w2.heap.size := by have := hb12.size; simpa using this
  have z0 : w.heap.size < w2.heap.size := by omega
  have z1 : ¬ w.heap.size = w2.heap.size := by omega
  have z2 : ¬ w2.heap.size = w.heap.size := by omega
  clear zs
  obtain ⟨hc, hf⟩ := old hb12
  go_wp2_with fail
  exact bodyPost_ret (v := .tuple #[.agg #[.bool false, .int .u64 0, .int .u64 0, .int .i64 0], .bool false]) (by simp [results, Tryz.results30, go_sem, hc, z0]) rfl (parseN_mk E1.out E2.out rfl ((((((((Below.refl _ _).alloc (Nat.le_refl _) _).trans (hb12.mono (by simp))).setCell (by simp) _).setCell (by simp) _).setCell (by simp) _).setCell (by simp) _).alloc (by simp; omega) _))
set_option maxHeartbeats 2000000 in
theorem parseN_B (l : List UInt8) (w : World) (hl : l.length < 4294966000) (hL : Lens w) (hA : okA (pre l) = true) (h1 : slash l = true) (h2 : slash (post l) = true) : Calls Tryz.prog 30 #[.string ⟨l.toArray⟩] w (ParseN l w) := by
  have PA := Lib.hid (parseA_any (pre l))
  unfold ParseA at PA
  rw [hA] at PA
  have hpl := pre_le l
  have hql := post_le l
  have E2 := Lib.hid (okN_noB h1 (parB_slash h2 128))
  have E1 := Lib.hid (parseN_no E2.out)
  have hm := cut_more_slash h1 h2
  obtain ⟨r, hr⟩ : ∃ r, r = (if slash l then cut 47 (post l) else []) := ⟨_, rfl⟩
  have hcut : cut 47 l = pre l :: r := by rw [hr]; exact cut_pre l
  rw [hcut, List.length_cons] at hm
  have HCUT := Lib.hid hcut
  clear hr hA hcut h1 h2
  have SP : Hid (∀ W, Calls Tryz.prog 29 #[.string ⟨l.toArray⟩, .int .u8 47] W (RetTxts (pre l :: r) W)) := Lib.hid fun W => by have h := split_list l 47 W (by omega); rwa [HCUT.out] at h
  go_enter Tryz.func30, Tryz.ntmps30
  go_wp2_with fail
  refine (SP.out _).mono ?_
  rintro e w1 ⟨v, rfl, hv, hb1⟩
  obtain ⟨b, o, c, rfl, hbl, hcap, hc0, hc1⟩ := Txts.cons hv
  rw [List.length_cons] at *
  generalize r.length = m at *
  clear hc1
  have hm2 : (2 : Int) < (m : Int) + 1 := by omega
  have hL1 := (hL.below ((Below.refl _ _).alloc (Nat.le_refl _) _)).below hb1
  clear hv
  go_wp2_with fail
  refine (PA.out _ (by omega) hL1).mono ?_
  rintro e w2 ⟨rfl, hb2⟩
  have hb12 := low_trans hb1 hb2
  have hL2 := hL1.below hb2
  have zs : w.heap.size + 1 ≤ w2.heap.size := by have := hb12.size; simpa using this
  have z0 : w.heap.size < w2.heap.size := by omega
  have z1 : ¬ w.heap.size = w2.heap.size := by omega
  have z2 : ¬ w2.heap.size = w.heap.size := by omega
  clear zs
  obtain ⟨hc, hf⟩ := old hb12
  go_wp2_with fail
  exact bodyPost_ret (v := .tuple #[.agg #[.bool false, .int .u64 0, .int .u64 0, .int .i64 0], .bool false]) (by simp [results, Tryz.results30, go_sem, hc, z0]) rfl (parseN_mk E1.out E2.out rfl ((((((((Below.refl _ _).alloc (Nat.le_refl _) _).trans (hb12.mono (by simp))).setCell (by simp) _).setCell (by simp) _).setCell (by simp) _).setCell (by simp) _).alloc (by simp; omega) _))
set_option maxHeartbeats 2000000 in
theorem parseN_C (l : List UInt8) (w : World) (hl : l.length < 4294966000) (hL : Lens w) (hA : okA (pre l) = true) (h1 : slash l = false) : Calls Tryz.prog 30 #[.string ⟨l.toArray⟩] w (ParseN l w) := by
  have PA := Lib.hid (parseA_any (pre l))
  unfold ParseA at PA
  rw [hA] at PA
  have hpl := pre_le l
  have hql := post_le l
  have E1 := Lib.hid (okN_full hA h1).2
  have E2 := Lib.hid (okN_full hA h1).1
  have HCUT := Lib.hid (cut_none_slash h1)
  have FU := Lib.hid (fun W => full_any (parseA (pre l)) W (parseA_ok _))
  clear hA h1
  have SP : Hid (∀ W, Calls Tryz.prog 29 #[.string ⟨l.toArray⟩, .int .u8 47] W (RetTxts (pre l :: []) W)) := Lib.hid fun W => by have h := split_list l 47 W (by omega); rwa [HCUT.out] at h
  go_enter Tryz.func30, Tryz.ntmps30
  go_wp2_with fail
  refine (SP.out _).mono ?_
  rintro e w1 ⟨v, rfl, hv, hb1⟩
  obtain ⟨b, o, c, rfl, hbl, hcap, hc0, hc1⟩ := Txts.cons hv
  clear hc1
  have hL1 := (hL.below ((Below.refl _ _).alloc (Nat.le_refl _) _)).below hb1
  clear hv
  go_wp2_with fail
  refine (PA.out _ (by omega) hL1).mono ?_
  rintro e w2 ⟨rfl, hb2⟩
  have hb12 := low_trans hb1 hb2
  have hL2 := hL1.below hb2
  have zs : w.heap.size + 1 ≤ w2.heap.size := by have := hb12.size; simpa using this
  have z0 : w.heap.size < w2.heap.size := by omega
  have z1 : ¬ w.heap.size = w2.heap.size := by omega
  have z2 : ¬ w2.heap.size = w.heap.size := by omega
  clear zs
  go_wp2_with fail
  refine (FU.out _).mono ?_
  rintro e w3 ⟨rfl, hb3⟩
  have hb13 := low_trans (hb12.alloc hb12.size (.cells #[.bool (parseA (pre l)).v6, .int .u64 (parseA (pre l)).hi, .int .u64 (parseA (pre l)).lo] 36)) hb3
  obtain ⟨hc, hf⟩ := old hb13
  go_wp2_with fail
  exact bodyPost_ret (v := .tuple #[.agg #[.bool (fullN (parseA (pre l))).a.v6, .int .u64 (fullN (parseA (pre l))).a.hi, .int .u64 (fullN (parseA (pre l))).a.lo, .int .i64 (fullN (parseA (pre l))).n], .bool true]) (by simp [results, Tryz.results30, go_sem, hc]) rfl (parseN_mk E1.out E2.out rfl (((((((Below.refl _ _).alloc (Nat.le_refl _) _).trans (hb13.mono (by simp))).setCell (by simp) _).setCell (by simp) _).setCell (by simp) _).setCell (by simp) _))
set_option maxHeartbeats 2000000 in
theorem parseN_D (l : List UInt8) (w : World) (hl : l.length < 4294966000) (hL : Lens w) (hA : okA (pre l) = true) (h1 : slash l = true) (h2 : slash (post l) = false) (h3 : parB (post l) 128 = false) : Calls Tryz.prog 30 #[.string ⟨l.toArray⟩] w (ParseN l w) := by
  have PA := Lib.hid (parseA_any (pre l))
  unfold ParseA at PA
  rw [hA] at PA
  have hpl := pre_le l
  have hql := post_le l
  have E2 := Lib.hid (okN_noB h1 h3)
  have E1 := Lib.hid (parseN_no E2.out)
  have HCUT := Lib.hid (cut_one_slash h1 h2)
  have PB := Lib.hid (fun W => parse_list (post l) 128 W (by omega) (by omega) (by omega))
  rw [h3] at PB
  clear hA h1 h2 h3
  have SP : Hid (∀ W, Calls Tryz.prog 29 #[.string ⟨l.toArray⟩, .int .u8 47] W (RetTxts (pre l :: [post l]) W)) := Lib.hid fun W => by have h := split_list l 47 W (by omega); rwa [HCUT.out] at h
  go_enter Tryz.func30, Tryz.ntmps30
  go_wp2_with fail
  refine (SP.out _).mono ?_
  rintro e w1 ⟨v, rfl, hv, hb1⟩
  obtain ⟨b, o, c, rfl, hbl, hcap, hc0, hc1⟩ := Txts.cons hv
  have hc2 := hc1 (post l) rfl
  clear hc1
  have hL1 := (hL.below ((Below.refl _ _).alloc (Nat.le_refl _) _)).below hb1
  clear hv
  go_wp2_with fail
  refine (PA.out _ (by omega) hL1).mono ?_
  rintro e w2 ⟨rfl, hb2⟩
  have hb12 := low_trans hb1 hb2
  have hL2 := hL1.below hb2
  have zs : w.heap.size + 1 ≤ w2.heap.size := by have := hb12.size; simpa using this
  have z0 : w.heap.size < w2.heap.size := by omega
  have z1 : ¬ w.heap.size = w2.heap.size := by omega
  have z2 : ¬ w2.heap.size = w.heap.size := by omega
  clear zs
  have hd0 : w2.cell? ⟨b, o, none⟩ = some (.string ⟨(pre l).toArray⟩) := (hb2.cell (p := ⟨b, o, none⟩) hbl).trans hc0
  have hd1 : w2.cell? ⟨b, o + 1, none⟩ = some (.string ⟨(post l).toArray⟩) := (hb2.cell (p := ⟨b, o + 1, none⟩) hbl).trans hc2
  have hbl2 : b < w2.heap.size := Nat.lt_of_lt_of_le hbl hb2.size
  go_wp2_with fail
  refine (PB.out _).mono ?_
  rintro e w3 ⟨rfl, rfl⟩
  obtain ⟨hc, hf⟩ := old hb12
  go_wp2_with fail
  exact bodyPost_ret (v := .tuple #[.agg #[.bool false, .int .u64 0, .int .u64 0, .int .i64 0], .bool false]) (by simp [results, Tryz.results30, go_sem, hc, z0]) rfl (parseN_mk E1.out E2.out rfl ((((((((Below.refl _ _).alloc (Nat.le_refl _) _).trans (hb12.mono (by simp))).setCell (by simp) _).setCell (by simp) _).setCell (by simp) _).setCell (by simp) _).alloc (by simp; omega) _))
set_option maxHeartbeats 2000000 in
theorem parseN_E (l : List UInt8) (w : World) (hl : l.length < 4294966000) (hL : Lens w) (hA : okA (pre l) = true) (h1 : slash l = true) (h2 : slash (post l) = false) (h3 : parB (post l) 128 = true) (h4 : marked (pre l) = true) : Calls Tryz.prog 30 #[.string ⟨l.toArray⟩] w (ParseN l w) := by
  have PA := Lib.hid (parseA_any (pre l))
  unfold ParseA at PA
  rw [hA] at PA
  have hpl := pre_le l
  have hql := post_le l
  have E2 := Lib.hid (okN_mark h1 h3 h4).1
  have E1 := Lib.hid (okN_mark h1 h3 h4).2.1
  have EM := (okN_mark h1 h3 h4).2.2
  have hm := marked_is h4
  have hv : (parseA (pre l)).v6 = false := by rw [hm.2.2.2.2]
  have HCUT := Lib.hid (cut_one_slash h1 h2)
  have PB := Lib.hid (fun W => parse_list (post l) 128 W (by omega) (by omega) (by omega))
  rw [h3, show parN (post l) 128 = bitsT l from rfl] at PB
  have hbt := bitsT_bd l
  have P6 := Lib.hid (parse6_any (pre l))
  unfold Parse6 at P6
  rw [hm.1] at P6
  have OM := Lib.hid (fun W => ofMarked_any (hi6 (pre l)) (lo6 (pre l)) (bitsT l) W (hi6_lt _) (lo6_lt _) hbt.1 hbt.2)
  rw [EM] at OM
  clear hA h1 h2 h3 h4 EM hm
  have SP : Hid (∀ W, Calls Tryz.prog 29 #[.string ⟨l.toArray⟩, .int .u8 47] W (RetTxts (pre l :: [post l]) W)) := Lib.hid fun W => by have h := split_list l 47 W (by omega); rwa [HCUT.out] at h
  go_enter Tryz.func30, Tryz.ntmps30
  go_wp2_with fail
  refine (SP.out _).mono ?_
  rintro e w1 ⟨v, rfl, hv, hb1⟩
  obtain ⟨b, o, c, rfl, hbl, hcap, hc0, hc1⟩ := Txts.cons hv
  have hc2 := hc1 (post l) rfl
  clear hc1
  have hL1 := (hL.below ((Below.refl _ _).alloc (Nat.le_refl _) _)).below hb1
  clear hv
  go_wp2_with fail
  refine (PA.out _ (by omega) hL1).mono ?_
  rintro e w2 ⟨rfl, hb2⟩
  have hb12 := low_trans hb1 hb2
  have hL2 := hL1.below hb2
  have zs : w.heap.size + 1 ≤ w2.heap.size := by have := hb12.size; simpa using this
  have z0 : w.heap.size < w2.heap.size := by omega
  have z1 : ¬ w.heap.size = w2.heap.size := by omega
  have z2 : ¬ w2.heap.size = w.heap.size := by omega
  clear zs
  have hd0 : w2.cell? ⟨b, o, none⟩ = some (.string ⟨(pre l).toArray⟩) := (hb2.cell (p := ⟨b, o, none⟩) hbl).trans hc0
  have hd1 : w2.cell? ⟨b, o + 1, none⟩ = some (.string ⟨(post l).toArray⟩) := (hb2.cell (p := ⟨b, o + 1, none⟩) hbl).trans hc2
  have hbl2 : b < w2.heap.size := Nat.lt_of_lt_of_le hbl hb2.size
  go_wp2_with fail
  refine (PB.out _).mono ?_
  rintro e w3 ⟨rfl, rfl⟩
  have hL3 := hL2.below ((Below.refl _ _).alloc (Nat.le_refl _) (.cells #[.bool false, .int .u64 (parseA (pre l)).hi, .int .u64 (parseA (pre l)).lo] 36))
  go_wp2_with fail
  refine (P6.out _ (by omega) hL3).mono ?_
  rintro e w4 ⟨rfl, hb4⟩
  have hb14 := low_trans (hb12.alloc hb12.size (.cells #[.bool false, .int .u64 (parseA (pre l)).hi, .int .u64 (parseA (pre l)).lo] 36)) hb4
  have hx0 : w4.cell? ⟨w2.heap.size, 0, none⟩ = some (.bool false) := cells_left hb4 (by simp [go_sem])
  have hx1 : w4.cell? ⟨w2.heap.size, 1, none⟩ = some (.int .u64 (parseA (pre l)).hi) := cells_left hb4 (by simp [go_sem])
  have hx2 : w4.cell? ⟨w2.heap.size, 2, none⟩ = some (.int .u64 (parseA (pre l)).lo) := cells_left hb4 (by simp [go_sem])
  go_wp2_with fail
  refine (OM.out _).mono ?_
  rintro e w5 ⟨rfl, hb5⟩
  have hb15 := low_trans hb14 hb5
  obtain ⟨hc, hf⟩ := old hb15
  go_wp2_with fail
  exact bodyPost_ret (v := .tuple #[.agg #[.bool (markN (hi6 (pre l)) (lo6 (pre l)) (bitsT l)).a.v6, .int .u64 (markN (hi6 (pre l)) (lo6 (pre l)) (bitsT l)).a.hi, .int .u64 (markN (hi6 (pre l)) (lo6 (pre l)) (bitsT l)).a.lo, .int .i64 (markN (hi6 (pre l)) (lo6 (pre l)) (bitsT l)).n], .bool true]) (by simp [results, Tryz.results30, go_sem, hc]) rfl (parseN_mk E1.out E2.out rfl (((((((Below.refl _ _).alloc (Nat.le_refl _) _).trans (hb15.mono (by simp))).setCell (by simp) _).setCell (by simp) _).setCell (by simp) _).setCell (by simp) _))
set_option maxHeartbeats 2000000 in
theorem parseN_F (l : List UInt8) (w : World) (hl : l.length < 4294966000) (hL : Lens w) (hA : okA (pre l) = true) (h1 : slash l = true) (h2 : slash (post l) = false) (h3 : parB (post l) 128 = true) (h6 : ok6 (pre l) = false) : Calls Tryz.prog 30 #[.string ⟨l.toArray⟩] w (ParseN l w) := by
  have PA := Lib.hid (parseA_any (pre l))
  unfold ParseA at PA
  rw [hA] at PA
  have hpl := pre_le l
  have hql := post_le l
  have E2 := Lib.hid (okN_make hA h1 h3 (by unfold marked; rw [h6]; rfl)).1
  have E1 := Lib.hid (okN_make hA h1 h3 (by unfold marked; rw [h6]; rfl)).2
  have HCUT := Lib.hid (cut_one_slash h1 h2)
  have PB := Lib.hid (fun W => parse_list (post l) 128 W (by omega) (by omega) (by omega))
  rw [h3, show parN (post l) 128 = bitsT l from rfl] at PB
  have hbt := bitsT_bd l
  have P6 := Lib.hid (parse6_any (pre l))
  unfold Parse6 at P6
  rw [h6] at P6
  have MK := Lib.hid (fun W => make_any (parseA (pre l)) (bitsT l) W (parseA_ok _) (by omega) (by omega))
  clear hA h1 h2 h3 h6
  have SP : Hid (∀ W, Calls Tryz.prog 29 #[.string ⟨l.toArray⟩, .int .u8 47] W (RetTxts (pre l :: [post l]) W)) := Lib.hid fun W => by have h := split_list l 47 W (by omega); rwa [HCUT.out] at h
  go_enter Tryz.func30, Tryz.ntmps30
  go_wp2_with fail
  refine (SP.out _).mono ?_
  rintro e w1 ⟨v, rfl, hv, hb1⟩
  obtain ⟨b, o, c, rfl, hbl, hcap, hc0, hc1⟩ := Txts.cons hv
  have hc2 := hc1 (post l) rfl
  clear hc1
  have hL1 := (hL.below ((Below.refl _ _).alloc (Nat.le_refl _) _)).below hb1
  clear hv
  go_wp2_with fail
  refine (PA.out _ (by omega) hL1).mono ?_
  rintro e w2 ⟨rfl, hb2⟩
  have hb12 := low_trans hb1 hb2
  have hL2 := hL1.below hb2
  have zs : w.heap.size + 1 ≤ w2.heap.size := by have := hb12.size; simpa using this
  have z0 : w.heap.size < w2.heap.size := by omega
  have z1 : ¬ w.heap.size = w2.heap.size := by omega
  have z2 : ¬ w2.heap.size = w.heap.size := by omega
  clear zs
  have hd0 : w2.cell? ⟨b, o, none⟩ = some (.string ⟨(pre l).toArray⟩) := (hb2.cell (p := ⟨b, o, none⟩) hbl).trans hc0
  have hd1 : w2.cell? ⟨b, o + 1, none⟩ = some (.string ⟨(post l).toArray⟩) := (hb2.cell (p := ⟨b, o + 1, none⟩) hbl).trans hc2
  have hbl2 : b < w2.heap.size := Nat.lt_of_lt_of_le hbl hb2.size
  go_wp2_with fail
  refine (PB.out _).mono ?_
  rintro e w3 ⟨rfl, rfl⟩
  have hL3 := hL2.below ((Below.refl _ _).alloc (Nat.le_refl _) (.cells #[.bool (parseA (pre l)).v6, .int .u64 (parseA (pre l)).hi, .int .u64 (parseA (pre l)).lo] 36))
  go_wp2_with fail
  refine (P6.out _ (by omega) hL3).mono ?_
  rintro e w4 ⟨rfl, hb4⟩
  have hb14 := low_trans (hb12.alloc hb12.size (.cells #[.bool (parseA (pre l)).v6, .int .u64 (parseA (pre l)).hi, .int .u64 (parseA (pre l)).lo] 36)) hb4
  have hx0 : w4.cell? ⟨w2.heap.size, 0, none⟩ = some (.bool (parseA (pre l)).v6) := cells_left hb4 (by simp [go_sem])
  have hx1 : w4.cell? ⟨w2.heap.size, 1, none⟩ = some (.int .u64 (parseA (pre l)).hi) := cells_left hb4 (by simp [go_sem])
  have hx2 : w4.cell? ⟨w2.heap.size, 2, none⟩ = some (.int .u64 (parseA (pre l)).lo) := cells_left hb4 (by simp [go_sem])
  go_wp2_with fail
  refine (MK.out _).mono ?_
  rintro e w5 ⟨rfl, hb5⟩
  have hb15 := low_trans hb14 hb5
  obtain ⟨hc, hf⟩ := old hb15
  go_wp2_with fail
  exact bodyPost_ret (v := .tuple #[.agg #[.bool (makeN (parseA (pre l)) (bitsT l)).a.v6, .int .u64 (makeN (parseA (pre l)) (bitsT l)).a.hi, .int .u64 (makeN (parseA (pre l)) (bitsT l)).a.lo, .int .i64 (makeN (parseA (pre l)) (bitsT l)).n], .bool (makeB (parseA (pre l)) (bitsT l))]) (by simp [results, Tryz.results30, go_sem, hc]) rfl (parseN_mk E1.out E2.out rfl (((((((Below.refl _ _).alloc (Nat.le_refl _) _).trans (hb15.mono (by simp))).setCell (by simp) _).setCell (by simp) _).setCell (by simp) _).setCell (by simp) _))
set_option maxHeartbeats 2000000 in
theorem parseN_G (l : List UInt8) (w : World) (hl : l.length < 4294966000) (hL : Lens w) (hA : okA (pre l) = true) (h1 : slash l = true) (h2 : slash (post l) = false) (h3 : parB (post l) 128 = true) (h6 : ok6 (pre l) = true) (hv : (parseA (pre l)).v6 = true) : Calls Tryz.prog 30 #[.string ⟨l.toArray⟩] w (ParseN l w) := by
  have PA := Lib.hid (parseA_any (pre l))
  unfold ParseA at PA
  rw [hA] at PA
  have hpl := pre_le l
  have hql := post_le l
  have E2 := Lib.hid (okN_make hA h1 h3 (by unfold marked; rw [hv]; simp)).1
  have E1 := Lib.hid (okN_make hA h1 h3 (by unfold marked; rw [hv]; simp)).2
  have HCUT := Lib.hid (cut_one_slash h1 h2)
  have PB := Lib.hid (fun W => parse_list (post l) 128 W (by omega) (by omega) (by omega))
  rw [h3, show parN (post l) 128 = bitsT l from rfl] at PB
  have hbt := bitsT_bd l
  have P6 := Lib.hid (parse6_any (pre l))
  unfold Parse6 at P6
  rw [h6] at P6
  have MK := Lib.hid (fun W => make_any (parseA (pre l)) (bitsT l) W (parseA_ok _) (by omega) (by omega))
  clear hA h1 h2 h3 h6
  rw [hv] at MK
  have SP : Hid (∀ W, Calls Tryz.prog 29 #[.string ⟨l.toArray⟩, .int .u8 47] W (RetTxts (pre l :: [post l]) W)) := Lib.hid fun W => by have h := split_list l 47 W (by omega); rwa [HCUT.out] at h
  go_enter Tryz.func30, Tryz.ntmps30
  go_wp2_with fail
  refine (SP.out _).mono ?_
  rintro e w1 ⟨v, rfl, hv, hb1⟩
  obtain ⟨b, o, c, rfl, hbl, hcap, hc0, hc1⟩ := Txts.cons hv
  have hc2 := hc1 (post l) rfl
  clear hc1
  have hL1 := (hL.below ((Below.refl _ _).alloc (Nat.le_refl _) _)).below hb1
  clear hv
  go_wp2_with fail
  refine (PA.out _ (by omega) hL1).mono ?_
  rintro e w2 ⟨rfl, hb2⟩
  have hb12 := low_trans hb1 hb2
  have hL2 := hL1.below hb2
  have zs : w.heap.size + 1 ≤ w2.heap.size := by have := hb12.size; simpa using this
  have z0 : w.heap.size < w2.heap.size := by omega
  have z1 : ¬ w.heap.size = w2.heap.size := by omega
  have z2 : ¬ w2.heap.size = w.heap.size := by omega
  clear zs
  have hd0 : w2.cell? ⟨b, o, none⟩ = some (.string ⟨(pre l).toArray⟩) := (hb2.cell (p := ⟨b, o, none⟩) hbl).trans hc0
  have hd1 : w2.cell? ⟨b, o + 1, none⟩ = some (.string ⟨(post l).toArray⟩) := (hb2.cell (p := ⟨b, o + 1, none⟩) hbl).trans hc2
  have hbl2 : b < w2.heap.size := Nat.lt_of_lt_of_le hbl hb2.size
  go_wp2_with fail
  refine (PB.out _).mono ?_
  rintro e w3 ⟨rfl, rfl⟩
  have hL3 := hL2.below ((Below.refl _ _).alloc (Nat.le_refl _) (.cells #[.bool true, .int .u64 (parseA (pre l)).hi, .int .u64 (parseA (pre l)).lo] 36))
  go_wp2_with fail
  refine (P6.out _ (by omega) hL3).mono ?_
  rintro e w4 ⟨rfl, hb4⟩
  have hb14 := low_trans (hb12.alloc hb12.size (.cells #[.bool true, .int .u64 (parseA (pre l)).hi, .int .u64 (parseA (pre l)).lo] 36)) hb4
  have hx0 : w4.cell? ⟨w2.heap.size, 0, none⟩ = some (.bool true) := cells_left hb4 (by simp [go_sem])
  have hx1 : w4.cell? ⟨w2.heap.size, 1, none⟩ = some (.int .u64 (parseA (pre l)).hi) := cells_left hb4 (by simp [go_sem])
  have hx2 : w4.cell? ⟨w2.heap.size, 2, none⟩ = some (.int .u64 (parseA (pre l)).lo) := cells_left hb4 (by simp [go_sem])
  go_wp2_with fail
  refine (MK.out _).mono ?_
  rintro e w5 ⟨rfl, hb5⟩
  have hb15 := low_trans hb14 hb5
  obtain ⟨hc, hf⟩ := old hb15
  go_wp2_with fail
  exact bodyPost_ret (v := .tuple #[.agg #[.bool (makeN (parseA (pre l)) (bitsT l)).a.v6, .int .u64 (makeN (parseA (pre l)) (bitsT l)).a.hi, .int .u64 (makeN (parseA (pre l)) (bitsT l)).a.lo, .int .i64 (makeN (parseA (pre l)) (bitsT l)).n], .bool (makeB (parseA (pre l)) (bitsT l))]) (by simp [results, Tryz.results30, go_sem, hc]) rfl (parseN_mk E1.out E2.out rfl (((((((Below.refl _ _).alloc (Nat.le_refl _) _).trans (hb15.mono (by simp))).setCell (by simp) _).setCell (by simp) _).setCell (by simp) _).setCell (by simp) _))
theorem parseN_any (l : List UInt8) (w : World) (hl : l.length < 4294966000) (hL : Lens w) : Calls Tryz.prog 30 #[.string ⟨l.toArray⟩] w (ParseN l w) := by
  cases hA : okA (pre l)
  · exact parseN_A l w hl hL hA
  · cases h1 : slash l
    · exact parseN_C l w hl hL hA h1
    · cases h2 : slash (post l)
      · cases h3 : parB (post l) 128
        · exact parseN_D l w hl hL hA h1 h2 h3
        · cases h6 : ok6 (pre l)
          · exact parseN_F l w hl hL hA h1 h2 h3 h6
          · cases hv : (parseA (pre l)).v6
            · exact parseN_E l w hl hL hA h1 h2 h3 (by unfold marked; rw [h6, hv]; rfl)
            · exact parseN_G l w hl hL hA h1 h2 h3 h6 hv
      · exact parseN_B l w hl hL hA h1 h2
end Go.Proofs.YtefkolkagebffaaGreatDoor.Ci
