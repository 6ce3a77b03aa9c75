/- Contract of package cidr: texts. -/
import Derived.Test.YtmkpacbalnkdbaaCidrMore
import Derived.Deep.RegionWith
namespace Go.Proofs.Ytmkpacbalnkdbaa.Ci
set_option maxRecDepth 100000
open Go.ChangeShapes Go.WideShapes Go.ChangeAt Go.RowKit
open Dec Words V4 V6 Ad
set_option linter.unusedVariables false
abbrev ST (n : Net) (w w' : World) : Prop := w'.cell? ⟨w.heap.size, 0, none⟩ = some (.bool n.a.v6) ∧ w'.cell? ⟨w.heap.size, 1, none⟩ = some (.int .u64 n.a.hi) ∧ w'.cell? ⟨w.heap.size, 2, none⟩ = some (.int .u64 n.a.lo) ∧ w'.cell? ⟨w.heap.size, 3, none⟩ = some (.int .i64 n.n) ∧ Stays (w.alloc (.cells #[.bool n.a.v6, .int .u64 n.a.hi, .int .u64 n.a.lo, .int .i64 n.n] 28)) w'
theorem ST.of {n : Net} {w w' : World} (h : Stays (w.alloc (.cells #[.bool n.a.v6, .int .u64 n.a.hi, .int .u64 n.a.lo, .int .i64 n.n] 28)) w') : ST n w w' := ⟨cells_left h (by simp [go_sem]), cells_left h (by simp [go_sem]), cells_left h (by simp [go_sem]), cells_left h (by simp [go_sem]), h⟩
set_option maxHeartbeats 4000000 in
theorem textN_any (n : Net) (w : World) (hn : n.ok) :
    Calls Try.prog 21 #[.agg #[.bool n.a.v6, .int .u64 n.a.hi, .int .u64 n.a.lo, .int .i64 n.n]] w fun e w' => e = .returned (.string ⟨(textN n).toArray⟩) ∧ Below w.heap.size w w' := by
  have RI := Lib.hid (fun W => rightN_any n W hn)
  cases hr : rightN n
  · have E : Hid (textN n = []) := Lib.hid (textN_no hr)
    rw [hr] at RI
    clear hr
    go_enter Try.func21, Try.ntmps21
    go_wp2_with fail
    refine (RI.out _).mono ?_
    rintro e w1 ⟨rfl, hb1⟩
    go_wp2_with fail
    go_ret
    exact ⟨ret_s (a := []) E.out.symm, ((Below.refl _ _).alloc (Nat.le_refl _) _).trans (hb1.mono (by simp))⟩
  · have E : Hid (glue 47 [textA n.a, text n.n] = textN n) := Lib.hid (by unfold textN; rw [if_pos hr]; simp [glue])
    have hlen : (glue 47 [textA n.a, text n.n]).length ≤ 140737488355328 := by rw [E.out]; have := textN_len hn; omega
    rw [hr] at RI
    clear hr
    have K1 : Hid (∀ W, ST n w W → Calls Try.prog 33 #[.agg #[.bool n.a.v6, .int .u64 n.a.hi, .int .u64 n.a.lo]] W fun e w' => e = .returned (.string ⟨(textA n.a).toArray⟩) ∧ ST n w w') := Lib.hid fun W h => (textA_any n.a W hn.1).mono fun e w' ⟨he, hb⟩ => ⟨he, ST.of (low_trans h.2.2.2.2 hb)⟩
    have K2 : Hid (∀ W, ST n w W → Calls Try.prog 34 #[.int .i64 n.n] W fun e w' => e = .returned (.string ⟨(text n.n).toArray⟩) ∧ ST n w w') := Lib.hid fun W h => (text_any n.n W hn.2.1 hn.2.2).mono fun e w' ⟨he, hb⟩ => ⟨he, ST.of (low_trans h.2.2.2.2 hb)⟩
    have K3 : Hid (∀ W : World, ST n w W → Calls Try.prog 32 #[.slice (some ⟨W.heap.size, 0, none⟩) 2 2, .int .u8 47] (W.alloc (.cells #[.string ⟨(textA n.a).toArray⟩, .string ⟨(text n.n).toArray⟩] 9)) fun e w' => e = .returned (.string ⟨(glue 47 [textA n.a, text n.n]).toArray⟩) ∧ ST n w w') := Lib.hid fun W h => (join_any _ [textA n.a, text n.n] 47 _ (Txts.lit W [textA n.a, text n.n] #[.string ⟨(textA n.a).toArray⟩, .string ⟨(text n.n).toArray⟩] 9 rfl) (by simp) hlen).mono fun e w' ⟨he, hb⟩ => ⟨he, ST.of (low_trans (Below.alloc h.2.2.2.2 h.2.2.2.2.size _) hb)⟩
    have JD : Hid (∀ W, ST n w W → ST n w W.drew) := Lib.hid fun W h => ST.of (low_drewN h.2.2.2.2 1)
    have JA : Hid (∀ W o, ST n w W → ST n w (W.alloc o)) := Lib.hid fun W o h => ST.of (Below.alloc h.2.2.2.2 h.2.2.2.2.size o)
    clear hlen
    go_enter Try.func21, Try.ntmps21
    go_wp2_with fail
    refine (RI.out _).mono ?_
    rintro e w1 ⟨rfl, hb1⟩
    have hS1 : ST n w w1 := ST.of hb1
    clear hb1 RI
    obtain ⟨k0, k1, k2, k3, hs⟩ := id hS1
    go_wp2_with fail
    go_region_with (first
      | (go_at_call 33; (with_reducible refine (K1.out _ (by (repeat (first | assumption | refine JD.out _ ?_ | refine JA.out _ _ ?_)))).mono ?_); rintro e w9 ⟨rfl, hkw⟩; obtain ⟨k0, k1, k2, k3, hs⟩ := id hkw)
      | (go_at_call 34; (with_reducible refine (K2.out _ (by (repeat (first | assumption | refine JD.out _ ?_ | refine JA.out _ _ ?_)))).mono ?_); rintro e w9 ⟨rfl, hkw⟩; obtain ⟨k0, k1, k2, k3, hs⟩ := id hkw)
      | (go_at_call 32; refine (K3.out _ (by (repeat (first | assumption | refine JD.out _ ?_ | refine JA.out _ _ ?_)))).mono ?_; rintro e w9 ⟨rfl, hkw⟩; obtain ⟨k0, k1, k2, k3, hs⟩ := id hkw))
    all_goals clear K1 K2 K3 JD JA
    all_goals go_wp2_with fail
    all_goals go_ret
    all_goals exact ⟨ret_s E.out, ((Below.refl _ _).alloc (Nat.le_refl _) _).trans (hs.mono (by simp))⟩
end Go.Proofs.Ytmkpacbalnkdbaa.Ci
