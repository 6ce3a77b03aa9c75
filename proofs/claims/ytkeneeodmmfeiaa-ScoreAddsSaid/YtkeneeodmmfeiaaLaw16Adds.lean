/- The second statement of layer 16, proved: points of one tick come to what they are together; later or fewer points never count more. -/
import Derived.Test.YtkeneeodmmfeiaaLaw16
import Derived.Test.YtkeneeodmmfeiaaBox
namespace Go.Proofs.Ytkeneeodmmfeiaa
set_option maxRecDepth 100000
open Go.ChangeShapes Go.WideShapes Go.ChangeAt Go.RowKit
open Ha Go.Deep
set_option linter.unusedVariables false
abbrev SX16 (s : Sc) (u v x : Int) (n0 n1 : Nat) (W0 : World) (w' : World) : Prop := w'.cell? ⟨n0, 0, none⟩ = some (.int .i64 s.p) ∧ w'.cell? ⟨n0, 1, none⟩ = some (.int .i64 s.a) ∧ w'.cell? ⟨n1, 0, none⟩ = some (.int .i64 u) ∧ w'.cell? ⟨n1, 1, none⟩ = some (.int .i64 v) ∧ w'.cell? ⟨n1, 2, none⟩ = some (.int .i64 x) ∧ Lows W0 w'
set_option maxHeartbeats 8000000 in
theorem scoreAdds_walk (w : World) (s : Sc) (hs : s.ok) (i j : Int) (hi : -9223372036854775808 ≤ i ∧ i ≤ 9223372036854775807) (hj : -9223372036854775808 ≤ j ∧ j ≤ 9223372036854775807) (u v x : Int) (hu : -9223372036854775808 ≤ u ∧ u ≤ 9223372036854775807) (hv : -9223372036854775808 ≤ v ∧ v ≤ 9223372036854775807) (hx : -9223372036854775808 ≤ x ∧ x ≤ 9223372036854775807) :
    Calls Try.prog 4 #[.agg #[.int .i64 s.p, .int .i64 s.a], .agg #[.int .i64 i, .int .i64 j], .agg #[.int .i64 u, .int .i64 v, .int .i64 x]] w fun e w' => e = .returned (.bool true) ∧ Below w.heap.size w w' := by
  obtain ⟨m1, M1⟩ : ∃ m : Int, max i 0 = m := ⟨_, rfl⟩
  obtain ⟨a, M2⟩ : ∃ m : Int, min m1 1073741824 = m := ⟨_, rfl⟩
  obtain ⟨m3, M3⟩ : ∃ m : Int, max j 0 = m := ⟨_, rfl⟩
  obtain ⟨b, M4⟩ : ∃ m : Int, min m3 1073741824 = m := ⟨_, rfl⟩
  obtain ⟨lo, M5⟩ : ∃ m : Int, min v x = m := ⟨_, rfl⟩
  obtain ⟨hi2, M6⟩ : ∃ m : Int, max v x = m := ⟨_, rfl⟩
  obtain ⟨c, M7⟩ : ∃ m : Int, min a b = m := ⟨_, rfl⟩
  obtain ⟨d, M8⟩ : ∃ m : Int, max a b = m := ⟨_, rfl⟩
  have ha : 0 ≤ a ∧ a ≤ 1073741824 := by omega
  have hb : 0 ≤ b ∧ b ≤ 1073741824 := by omega
  have hle : lo ≤ hi2 := by omega
  have hcd : c ≤ d := by omega
  have Q := IntKind.wrap_i64 (a + b)
  have Q2 : IntKind.i64.wrap (a + b) = a + b := by rw [Q]; omega
  obtain ⟨qa, ea⟩ : ∃ q, q = addS s a u v := ⟨_, rfl⟩
  obtain ⟨qb, eb⟩ : ∃ q, q = addS s b u v := ⟨_, rfl⟩
  obtain ⟨q, eq⟩ : ∃ q, q = addS s (a + b) u v := ⟨_, rfl⟩
  obtain ⟨r1, e1⟩ : ∃ q, q = addS s a u hi2 := ⟨_, rfl⟩
  obtain ⟨r2, e2⟩ : ∃ q, q = addS s a u lo := ⟨_, rfl⟩
  obtain ⟨r3, e3⟩ : ∃ q, q = addS s c u lo := ⟨_, rfl⟩
  obtain ⟨r4, e4⟩ : ∃ q, q = addS s d u lo := ⟨_, rfl⟩
  have L1 : r1.p ≤ r2.p := by rw [e1, e2]; exact add_later s a u hle
  have L2 : r3.p ≤ r4.p := by rw [e3, e4]; exact add_fewer s u lo hcd
  have k1 : addS qa b u v = q := by rw [ea, eq]; exact add_add s a b u v ha hb
  have k2 : addS qb a u v = q := by rw [eb, eq, Int.add_comm a b]; exact add_add s b a u v hb ha
  have C1 := Lib.hid (fun W => by have k := addS_any s a u v W; rwa [← ea] at k)
  have C2 := Lib.hid (fun W => by have k := addS_any qa b u v W; rwa [k1] at k)
  have C3 := Lib.hid (fun W => by have k := addS_any s b u v W; rwa [← eb] at k)
  have C4 := Lib.hid (fun W => by have k := addS_any qb a u v W; rwa [k2] at k)
  have C5 := Lib.hid (fun W => by have k := addS_any s (a + b) u v W; rwa [← eq] at k)
  have C6 := Lib.hid (fun W => by have k := addS_any s a u hi2 W; rwa [← e1] at k)
  have C7 := Lib.hid (fun W => by have k := addS_any s a u lo W; rwa [← e2] at k)
  have C8 := Lib.hid (fun W => by have k := addS_any s c u lo W; rwa [← e3] at k)
  have C9 := Lib.hid (fun W => by have k := addS_any s d u lo W; rwa [← e4] at k)
  have AW := Lib.hid (fun W => awake16_any W)
  have EQ := fun W => eq_self q W
  have F1 := field_p r1.p r1.a
  have F2 := field_p r2.p r2.a
  have F3 := field_p r3.p r3.a
  have F4 := field_p r4.p r4.a
  have LL1 := Lib.hid L1
  have LL2 := Lib.hid L2
  clear ea eb eq e1 e2 e3 e4 k1 k2 hs hi hj hu hv hx hle hcd Q L1 L2
  have L0 : Hid (Below w.heap.size w (((w.alloc (.cells #[.int .i64 s.p, .int .i64 s.a] 23)).alloc (.cells #[.int .i64 i, .int .i64 j] 24)).alloc (.cells #[.int .i64 u, .int .i64 v, .int .i64 x] 31))) := Lib.hid ((((Below.refl _ _).alloc (Nat.le_refl _) _).alloc (by simp) _).alloc (by simp; omega) _)
  have OS : Hid (Blk (((w.alloc (.cells #[.int .i64 s.p, .int .i64 s.a] 23)).alloc (.cells #[.int .i64 i, .int .i64 j] 24)).alloc (.cells #[.int .i64 u, .int .i64 v, .int .i64 x] 31)) w.heap.size 23 [.int .i64 s.p, .int .i64 s.a]) := Lib.hid (((Blk.new w #[.int .i64 s.p, .int .i64 s.a] 23).alloc _).alloc _)
  have OP : Hid (Blk (((w.alloc (.cells #[.int .i64 s.p, .int .i64 s.a] 23)).alloc (.cells #[.int .i64 i, .int .i64 j] 24)).alloc (.cells #[.int .i64 u, .int .i64 v, .int .i64 x] 31)) (w.heap.size + 1) 24 [.int .i64 i, .int .i64 j]) := Lib.hid ((Blk.two w _ #[.int .i64 i, .int .i64 j] 24).alloc _)
  have OL : Hid (Blk (((w.alloc (.cells #[.int .i64 s.p, .int .i64 s.a] 23)).alloc (.cells #[.int .i64 i, .int .i64 j] 24)).alloc (.cells #[.int .i64 u, .int .i64 v, .int .i64 x] 31)) (w.heap.size + 2) 31 [.int .i64 u, .int .i64 v, .int .i64 x]) := Lib.hid (Blk.three w _ _ #[.int .i64 u, .int .i64 v, .int .i64 x] 31)
  go_enter Try.func4, Try.ntmps4
  go_wp2_with fail
  have hne : Nonempty (Cls (Lows (((w.alloc (.cells #[.int .i64 s.p, .int .i64 s.a] 23)).alloc (.cells #[.int .i64 i, .int .i64 j] 24)).alloc (.cells #[.int .i64 u, .int .i64 v, .int .i64 x] 31)))) := ⟨⟨_, Lows.self _⟩⟩
  have f0 : ∀ nq : Cls (Lows (((w.alloc (.cells #[.int .i64 s.p, .int .i64 s.a] 23)).alloc (.cells #[.int .i64 i, .int .i64 j] 24)).alloc (.cells #[.int .i64 u, .int .i64 v, .int .i64 x] 31))), nq.w.cell? ⟨w.heap.size, 0, none⟩ = some (.int .i64 s.p) := fun nq => Blk.in OS nq.h rfl
  have f1 : ∀ nq : Cls (Lows (((w.alloc (.cells #[.int .i64 s.p, .int .i64 s.a] 23)).alloc (.cells #[.int .i64 i, .int .i64 j] 24)).alloc (.cells #[.int .i64 u, .int .i64 v, .int .i64 x] 31))), nq.w.cell? ⟨w.heap.size, 1, none⟩ = some (.int .i64 s.a) := fun nq => Blk.in OS nq.h rfl
  have f2 : ∀ nq : Cls (Lows (((w.alloc (.cells #[.int .i64 s.p, .int .i64 s.a] 23)).alloc (.cells #[.int .i64 i, .int .i64 j] 24)).alloc (.cells #[.int .i64 u, .int .i64 v, .int .i64 x] 31))), nq.w.cell? ⟨w.heap.size + 1, 0, none⟩ = some (.int .i64 i) := fun nq => Blk.in OP nq.h rfl
  have f3 : ∀ nq : Cls (Lows (((w.alloc (.cells #[.int .i64 s.p, .int .i64 s.a] 23)).alloc (.cells #[.int .i64 i, .int .i64 j] 24)).alloc (.cells #[.int .i64 u, .int .i64 v, .int .i64 x] 31))), nq.w.cell? ⟨w.heap.size + 1, 1, none⟩ = some (.int .i64 j) := fun nq => Blk.in OP nq.h rfl
  have f4 : ∀ nq : Cls (Lows (((w.alloc (.cells #[.int .i64 s.p, .int .i64 s.a] 23)).alloc (.cells #[.int .i64 i, .int .i64 j] 24)).alloc (.cells #[.int .i64 u, .int .i64 v, .int .i64 x] 31))), nq.w.cell? ⟨w.heap.size + 2, 0, none⟩ = some (.int .i64 u) := fun nq => Blk.in OL nq.h rfl
  have f5 : ∀ nq : Cls (Lows (((w.alloc (.cells #[.int .i64 s.p, .int .i64 s.a] 23)).alloc (.cells #[.int .i64 i, .int .i64 j] 24)).alloc (.cells #[.int .i64 u, .int .i64 v, .int .i64 x] 31))), nq.w.cell? ⟨w.heap.size + 2, 1, none⟩ = some (.int .i64 v) := fun nq => Blk.in OL nq.h rfl
  have f6 : ∀ nq : Cls (Lows (((w.alloc (.cells #[.int .i64 s.p, .int .i64 s.a] 23)).alloc (.cells #[.int .i64 i, .int .i64 j] 24)).alloc (.cells #[.int .i64 u, .int .i64 v, .int .i64 x] 31))), nq.w.cell? ⟨w.heap.size + 2, 2, none⟩ = some (.int .i64 x) := fun nq => Blk.in OL nq.h rfl
  refine Cls.region (Lows (((w.alloc (.cells #[.int .i64 s.p, .int .i64 s.a] 23)).alloc (.cells #[.int .i64 i, .int .i64 j] 24)).alloc (.cells #[.int .i64 u, .int .i64 v, .int .i64 x] 31))) (by kernel_rfl) (by kernel_rfl) (low_drewN (Below.refl _ _) 1) ?_
  repeat (go_big_quiet_step (first | fail))
  refine wpQuiet_nil ?_
  intro n9
  have h1 := n9.h
  generalize n9.w = w1 at h1 ⊢
  clear hne n9 f0 f1 f2 f3 f4 f5 f6
  have OS1 := Lib.hid (OS.out.on h1)
  have OL1 := Lib.hid (OL.out.on h1)
  have LW1 := Lib.hid (low_trans L0.out h1)
  clear OS OP OL L0 h1 M1 M2 M3 M4
  go_upto_region 2 with fail
  go_cut [9] (fun sx wx => ∃ g : Nat, sx = .pointer (some ⟨g, 0, none⟩) ∧ w1.heap.size ≤ g ∧ Blk wx g 23 [.int .i64 q.p, .int .i64 q.a] ∧ Lows w1 wx)
  case first =>
    have IN : Hid (∀ X, Lows w1 X → SX16 s u v x w.heap.size (w.heap.size + 2) w1 X) := Lib.hid fun X h => ⟨Blk.in OS1 h rfl, Blk.in OS1 h rfl, Blk.in OL1 h rfl, Blk.in OL1 h rfl, Blk.in OL1 h rfl, h⟩
    have JD : Hid (∀ X, SX16 s u v x w.heap.size (w.heap.size + 2) w1 X → SX16 s u v x w.heap.size (w.heap.size + 2) w1 X.drew) := Lib.hid fun X h => IN.out _ (low_drewN h.2.2.2.2.2 1)
    have JA : Hid (∀ X oq, SX16 s u v x w.heap.size (w.heap.size + 2) w1 X → SX16 s u v x w.heap.size (w.heap.size + 2) w1 (X.alloc oq)) := Lib.hid fun X oq h => IN.out _ (Lows.alloc h.2.2.2.2.2 oq)
    have JS : Hid (∀ X bq jq uq, SX16 s u v x w.heap.size (w.heap.size + 2) w1 X → w1.heap.size ≤ bq → SX16 s u v x w.heap.size (w.heap.size + 2) w1 (X.setCell ⟨bq, jq, none⟩ uq)) := Lib.hid fun X bq jq uq h hc => IN.out _ (Below.setCell h.2.2.2.2.2 hc uq)
    have K0 : Hid (∀ X, SX16 s u v x w.heap.size (w.heap.size + 2) w1 X → Calls Try.prog 7 #[.agg #[.int .i64 s.p, .int .i64 s.a], .int .i64 a, .int .i64 u, .int .i64 v] X fun e w' => e = .returned (.agg #[.int .i64 qa.p, .int .i64 qa.a]) ∧ Below X.heap.size X w' ∧ SX16 s u v x w.heap.size (w.heap.size + 2) w1 w') := Lib.hid fun X h => (C1.out X).mono fun e w' ⟨he, hb⟩ => ⟨he, hb, IN.out _ (low_trans h.2.2.2.2.2 hb)⟩
    have K1 : Hid (∀ X, SX16 s u v x w.heap.size (w.heap.size + 2) w1 X → Calls Try.prog 7 #[.agg #[.int .i64 qa.p, .int .i64 qa.a], .int .i64 b, .int .i64 u, .int .i64 v] X fun e w' => e = .returned (.agg #[.int .i64 q.p, .int .i64 q.a]) ∧ Below X.heap.size X w' ∧ SX16 s u v x w.heap.size (w.heap.size + 2) w1 w') := Lib.hid fun X h => (C2.out X).mono fun e w' ⟨he, hb⟩ => ⟨he, hb, IN.out _ (low_trans h.2.2.2.2.2 hb)⟩
    have hk0 := IN.out _ (Lows.self _)
    have hkd := JD.out _ hk0
    go_region_held3 (fun w' => w'.cell? ⟨w.heap.size, 0, none⟩ = some (.int .i64 s.p) ∧ w'.cell? ⟨w.heap.size, 1, none⟩ = some (.int .i64 s.a) ∧ w'.cell? ⟨w.heap.size + 2, 0, none⟩ = some (.int .i64 u) ∧ w'.cell? ⟨w.heap.size + 2, 1, none⟩ = some (.int .i64 v) ∧ w'.cell? ⟨w.heap.size + 2, 2, none⟩ = some (.int .i64 x) ∧ Lows w1 w')
      (first | (with_reducible assumption) | (with_reducible exact JD.out _ (by assumption)) | (with_reducible exact JA.out _ _ (by assumption)) | (with_reducible exact JD.out _ (JA.out _ _ (by assumption))) | ((iterate 2 (with_reducible refine JS.out _ _ _ _ ?_ (by first | exact Nat.le_refl _ | (simp; done) | (simp; omega) | omega))); (with_reducible assumption)))
      (first
        | (go_at_call 7; (with_reducible refine (K0.out _ (by assumption)).mono ?_); rintro e v1 ⟨rfl, hb0, hk0⟩; obtain ⟨hc0, hf0⟩ := old hb0; have hz0 := hb0.size; (try simp [go_sem, Nat.add_one_le_iff] at hz0))
        | (go_at_call 7; (with_reducible refine (K1.out _ (by assumption)).mono ?_); rintro e v2 ⟨rfl, hb1, hk1⟩; obtain ⟨hc1, hf1⟩ := old hb1; have hz1 := hb1.size; (try simp [go_sem, Nat.add_one_le_iff] at hz1)))
    · go_wp2_with fail
      go_meet
      exact ⟨v2.heap.size, rfl, (hk1.2.2.2.2.2).size, Blk.new v2 _ _, Lows.alloc hk1.2.2.2.2.2 _⟩
    · go_wp2_with fail
      go_meet
      have ho1 : Blk v2 v1.heap.size 23 [.int .i64 0, .int .i64 0] := by first | exact Blk.on (show Blk (v1.alloc (.cells #[.int .i64 0, .int .i64 0] 23)).drew v1.heap.size 23 [.int .i64 0, .int .i64 0] from Blk.new v1 _ _) hb1 | exact Blk.on (Blk.new v1 _ _) hb1
      exact ⟨v1.heap.size, rfl, (hk0.2.2.2.2.2).size, ((ho1.set 0 (.int .i64 q.p)).set 1 (.int .i64 q.a)), (Below.setCell (Below.setCell hk1.2.2.2.2.2 (hk0.2.2.2.2.2).size (.int .i64 q.p)) (hk0.2.2.2.2.2).size (.int .i64 q.a))⟩
    · go_wp2_with fail
      go_meet
      have ho0 : Blk v1 w1.heap.size 23 [.int .i64 0, .int .i64 0] := by first | exact Blk.on (show Blk (w1.alloc (.cells #[.int .i64 0, .int .i64 0] 23)).drew w1.heap.size 23 [.int .i64 0, .int .i64 0] from Blk.new w1 _ _) hb0 | exact Blk.on (Blk.new w1 _ _) hb0
      have ho1 := ho0.on hb1
      exact ⟨w1.heap.size, rfl, ((Lows.self w1)).size, ((ho1.set 0 (.int .i64 q.p)).set 1 (.int .i64 q.a)), (Below.setCell (Below.setCell hk1.2.2.2.2.2 ((Lows.self w1)).size (.int .i64 q.p)) ((Lows.self w1)).size (.int .i64 q.a))⟩
  case rest =>
    obtain ⟨g, rfl, hg, ho, hlow⟩ := hcut
    have OX2 := Lib.hid ho
    have OS2 := Lib.hid (OS1.out.on hlow)
    have OL2 := Lib.hid (OL1.out.on hlow)
    have LW2 := Lib.hid (low_trans LW1.out hlow)
    obtain ⟨w2, hw2⟩ : ∃ w2, w2 = wc := ⟨_, rfl⟩
    subst hw2
    clear hg ho hlow OS1 OL1 LW1 C1 C2
    go_upto_region 3 with fail
    go_cut [10] (fun sx wx => ∃ g : Nat, sx = .pointer (some ⟨g, 0, none⟩) ∧ w2.heap.size ≤ g ∧ Blk wx g 23 [.int .i64 q.p, .int .i64 q.a] ∧ Lows w2 wx)
    case first =>
      have IN : Hid (∀ X, Lows w2 X → SX16 s u v x w.heap.size (w.heap.size + 2) w2 X) := Lib.hid fun X h => ⟨Blk.in OS2 h rfl, Blk.in OS2 h rfl, Blk.in OL2 h rfl, Blk.in OL2 h rfl, Blk.in OL2 h rfl, h⟩
      have JD : Hid (∀ X, SX16 s u v x w.heap.size (w.heap.size + 2) w2 X → SX16 s u v x w.heap.size (w.heap.size + 2) w2 X.drew) := Lib.hid fun X h => IN.out _ (low_drewN h.2.2.2.2.2 1)
      have JA : Hid (∀ X oq, SX16 s u v x w.heap.size (w.heap.size + 2) w2 X → SX16 s u v x w.heap.size (w.heap.size + 2) w2 (X.alloc oq)) := Lib.hid fun X oq h => IN.out _ (Lows.alloc h.2.2.2.2.2 oq)
      have JS : Hid (∀ X bq jq uq, SX16 s u v x w.heap.size (w.heap.size + 2) w2 X → w2.heap.size ≤ bq → SX16 s u v x w.heap.size (w.heap.size + 2) w2 (X.setCell ⟨bq, jq, none⟩ uq)) := Lib.hid fun X bq jq uq h hc => IN.out _ (Below.setCell h.2.2.2.2.2 hc uq)
      have K0 : Hid (∀ X, SX16 s u v x w.heap.size (w.heap.size + 2) w2 X → Calls Try.prog 7 #[.agg #[.int .i64 s.p, .int .i64 s.a], .int .i64 b, .int .i64 u, .int .i64 v] X fun e w' => e = .returned (.agg #[.int .i64 qb.p, .int .i64 qb.a]) ∧ Below X.heap.size X w' ∧ SX16 s u v x w.heap.size (w.heap.size + 2) w2 w') := Lib.hid fun X h => (C3.out X).mono fun e w' ⟨he, hb⟩ => ⟨he, hb, IN.out _ (low_trans h.2.2.2.2.2 hb)⟩
      have K1 : Hid (∀ X, SX16 s u v x w.heap.size (w.heap.size + 2) w2 X → Calls Try.prog 7 #[.agg #[.int .i64 qb.p, .int .i64 qb.a], .int .i64 a, .int .i64 u, .int .i64 v] X fun e w' => e = .returned (.agg #[.int .i64 q.p, .int .i64 q.a]) ∧ Below X.heap.size X w' ∧ SX16 s u v x w.heap.size (w.heap.size + 2) w2 w') := Lib.hid fun X h => (C4.out X).mono fun e w' ⟨he, hb⟩ => ⟨he, hb, IN.out _ (low_trans h.2.2.2.2.2 hb)⟩
      have hk0 := IN.out _ (Lows.self _)
      have hkd := JD.out _ hk0
      go_region_held3 (fun w' => w'.cell? ⟨w.heap.size, 0, none⟩ = some (.int .i64 s.p) ∧ w'.cell? ⟨w.heap.size, 1, none⟩ = some (.int .i64 s.a) ∧ w'.cell? ⟨w.heap.size + 2, 0, none⟩ = some (.int .i64 u) ∧ w'.cell? ⟨w.heap.size + 2, 1, none⟩ = some (.int .i64 v) ∧ w'.cell? ⟨w.heap.size + 2, 2, none⟩ = some (.int .i64 x) ∧ Lows w2 w')
        (first | (with_reducible assumption) | (with_reducible exact JD.out _ (by assumption)) | (with_reducible exact JA.out _ _ (by assumption)) | (with_reducible exact JD.out _ (JA.out _ _ (by assumption))) | ((iterate 2 (with_reducible refine JS.out _ _ _ _ ?_ (by first | exact Nat.le_refl _ | (simp; done) | (simp; omega) | omega))); (with_reducible assumption)))
        (first
          | (go_at_call 7; (with_reducible refine (K0.out _ (by assumption)).mono ?_); rintro e v1 ⟨rfl, hb0, hk0⟩; obtain ⟨hc0, hf0⟩ := old hb0; have hz0 := hb0.size; (try simp [go_sem, Nat.add_one_le_iff] at hz0))
          | (go_at_call 7; (with_reducible refine (K1.out _ (by assumption)).mono ?_); rintro e v2 ⟨rfl, hb1, hk1⟩; obtain ⟨hc1, hf1⟩ := old hb1; have hz1 := hb1.size; (try simp [go_sem, Nat.add_one_le_iff] at hz1)))
      · go_wp2_with fail
        go_meet
        exact ⟨v2.heap.size, rfl, (hk1.2.2.2.2.2).size, Blk.new v2 _ _, Lows.alloc hk1.2.2.2.2.2 _⟩
      · go_wp2_with fail
        go_meet
        have ho1 : Blk v2 v1.heap.size 23 [.int .i64 0, .int .i64 0] := by first | exact Blk.on (show Blk (v1.alloc (.cells #[.int .i64 0, .int .i64 0] 23)).drew v1.heap.size 23 [.int .i64 0, .int .i64 0] from Blk.new v1 _ _) hb1 | exact Blk.on (Blk.new v1 _ _) hb1
        exact ⟨v1.heap.size, rfl, (hk0.2.2.2.2.2).size, ((ho1.set 0 (.int .i64 q.p)).set 1 (.int .i64 q.a)), (Below.setCell (Below.setCell hk1.2.2.2.2.2 (hk0.2.2.2.2.2).size (.int .i64 q.p)) (hk0.2.2.2.2.2).size (.int .i64 q.a))⟩
      · go_wp2_with fail
        go_meet
        have ho0 : Blk v1 w2.heap.size 23 [.int .i64 0, .int .i64 0] := by first | exact Blk.on (show Blk (w2.alloc (.cells #[.int .i64 0, .int .i64 0] 23)).drew w2.heap.size 23 [.int .i64 0, .int .i64 0] from Blk.new w2 _ _) hb0 | exact Blk.on (Blk.new w2 _ _) hb0
        have ho1 := ho0.on hb1
        exact ⟨w2.heap.size, rfl, ((Lows.self w2)).size, ((ho1.set 0 (.int .i64 q.p)).set 1 (.int .i64 q.a)), (Below.setCell (Below.setCell hk1.2.2.2.2.2 ((Lows.self w2)).size (.int .i64 q.p)) ((Lows.self w2)).size (.int .i64 q.a))⟩
    case rest =>
      obtain ⟨g2, rfl, hg, ho, hlow⟩ := hcut
      have OY3 := Lib.hid ho
      have OX3 := Lib.hid (OX2.out.on hlow)
      have OS3 := Lib.hid (OS2.out.on hlow)
      have OL3 := Lib.hid (OL2.out.on hlow)
      have LW3 := Lib.hid (low_trans LW2.out hlow)
      obtain ⟨w3, hw3⟩ : ∃ w3, w3 = wc := ⟨_, rfl⟩
      subst hw3
      clear hg ho hlow OX2 OS2 OL2 LW2 C3 C4
      have b0 := OS3.out.cell (j := 0) rfl
      have b1 := OS3.out.cell (j := 1) rfl
      have l0 := OL3.out.cell (j := 0) rfl
      have l1 := OL3.out.cell (j := 1) rfl
      go_wp2_with fail
      refine (C5.out _).mono ?_
      rintro e w4 ⟨rfl, h4⟩
      have OZ5 := Lib.hid (Blk.new w4 #[.int .i64 q.p, .int .i64 q.a] 23)
      have OY5 := Lib.hid ((OY3.out.on h4).alloc (.cells #[.int .i64 q.p, .int .i64 q.a] 23))
      have OX5 := Lib.hid ((OX3.out.on h4).alloc (.cells #[.int .i64 q.p, .int .i64 q.a] 23))
      have OS5 := Lib.hid ((OS3.out.on h4).alloc (.cells #[.int .i64 q.p, .int .i64 q.a] 23))
      have OL5 := Lib.hid ((OL3.out.on h4).alloc (.cells #[.int .i64 q.p, .int .i64 q.a] 23))
      have LW5 := Lib.hid (Lows.alloc (low_trans LW3.out h4) (.cells #[.int .i64 q.p, .int .i64 q.a] 23))
      clear h4 OY3 OX3 OS3 OL3 LW3 C5 b0 b1 l0 l1
      go_wp2_with fail
      have hne : Nonempty (Cls (Lows (w4.alloc (.cells #[.int .i64 q.p, .int .i64 q.a] 23)))) := ⟨⟨_, Lows.self _⟩⟩
      have f0 : ∀ nq : Cls (Lows (w4.alloc (.cells #[.int .i64 q.p, .int .i64 q.a] 23))), nq.w.cell? ⟨w.heap.size + 2, 0, none⟩ = some (.int .i64 u) := fun nq => Blk.in OL5 nq.h rfl
      have f1 : ∀ nq : Cls (Lows (w4.alloc (.cells #[.int .i64 q.p, .int .i64 q.a] 23))), nq.w.cell? ⟨w.heap.size + 2, 1, none⟩ = some (.int .i64 v) := fun nq => Blk.in OL5 nq.h rfl
      have f2 : ∀ nq : Cls (Lows (w4.alloc (.cells #[.int .i64 q.p, .int .i64 q.a] 23))), nq.w.cell? ⟨w.heap.size + 2, 2, none⟩ = some (.int .i64 x) := fun nq => Blk.in OL5 nq.h rfl
      refine Cls.region (Lows (w4.alloc (.cells #[.int .i64 q.p, .int .i64 q.a] 23))) (by kernel_rfl) (by kernel_rfl) (low_drewN (Below.refl _ _) 1) ?_
      repeat (go_big_quiet_step (first | fail))
      refine wpQuiet_nil ?_
      intro n9
      have h6 := n9.h
      generalize n9.w = w6 at h6 ⊢
      clear hne n9 f0 f1 f2
      have OS6 := Lib.hid (OS5.out.on h6)
      have OL6 := Lib.hid (OL5.out.on h6)
      have OX6 := Lib.hid (OX5.out.on h6)
      have OY6 := Lib.hid (OY5.out.on h6)
      have OZ6 := Lib.hid (OZ5.out.on h6)
      have LW6 := Lib.hid (low_trans LW5.out h6)
      clear OS5 OL5 OX5 OY5 OZ5 LW5 h6 M5 M6
      have LE1 := LL1.out
      have LE2 := LL2.out
      go_wp2_with fail
      have hne : Nonempty (Cls (Lows w6)) := ⟨⟨_, Lows.self _⟩⟩
      have f0 : ∀ nq : Cls (Lows w6), nq.w.cell? ⟨w.heap.size, 0, none⟩ = some (.int .i64 s.p) := fun nq => Blk.in OS6 nq.h rfl
      have f1 : ∀ nq : Cls (Lows w6), nq.w.cell? ⟨w.heap.size, 1, none⟩ = some (.int .i64 s.a) := fun nq => Blk.in OS6 nq.h rfl
      have f2 : ∀ nq : Cls (Lows w6), nq.w.cell? ⟨w.heap.size + 2, 0, none⟩ = some (.int .i64 u) := fun nq => Blk.in OL6 nq.h rfl
      have f3 : ∀ nq : Cls (Lows w6), nq.w.cell? ⟨w.heap.size + 2, 1, none⟩ = some (.int .i64 v) := fun nq => Blk.in OL6 nq.h rfl
      have f4 : ∀ nq : Cls (Lows w6), nq.w.cell? ⟨w.heap.size + 2, 2, none⟩ = some (.int .i64 x) := fun nq => Blk.in OL6 nq.h rfl
      have f5 : ∀ nq : Cls (Lows w6), nq.w.cell? ⟨g, 0, none⟩ = some (.int .i64 q.p) := fun nq => Blk.in OX6 nq.h rfl
      have f6 : ∀ nq : Cls (Lows w6), nq.w.cell? ⟨g, 1, none⟩ = some (.int .i64 q.a) := fun nq => Blk.in OX6 nq.h rfl
      have f7 : ∀ nq : Cls (Lows w6), nq.w.cell? ⟨g2, 0, none⟩ = some (.int .i64 q.p) := fun nq => Blk.in OY6 nq.h rfl
      have f8 : ∀ nq : Cls (Lows w6), nq.w.cell? ⟨g2, 1, none⟩ = some (.int .i64 q.a) := fun nq => Blk.in OY6 nq.h rfl
      have f9 : ∀ nq : Cls (Lows w6), nq.w.cell? ⟨w4.heap.size, 0, none⟩ = some (.int .i64 q.p) := fun nq => Blk.in OZ6 nq.h rfl
      have f10 : ∀ nq : Cls (Lows w6), nq.w.cell? ⟨w4.heap.size, 1, none⟩ = some (.int .i64 q.a) := fun nq => Blk.in OZ6 nq.h rfl
      refine Cls.region (Lows w6) (by kernel_rfl) (by kernel_rfl) (low_drewN (Below.refl _ _) 1) ?_
      repeat (go_big_quiet_step (first | fail | (with_reducible exact Cls.call ((lows_call C6).out _ (Cls.h _))) | (with_reducible exact Cls.call ((lows_call C7).out _ (Cls.h _))) | (with_reducible exact Cls.call ((lows_call C8).out _ (Cls.h _))) | (with_reducible exact Cls.call ((lows_call C9).out _ (Cls.h _))) | (with_reducible exact Cls.call ((lows_call AW).out _ (Cls.h _)))))
      refine wpQuiet_nil ?_
      intro n9
      have hk9 := n9.h
      generalize n9.w = w9 at hk9 ⊢
      clear hne n9 f0 f1 f2 f3 f4 f5 f6 f7 f8 f9 f10
      go_wp2
      go_ret
      exact ⟨rfl, low_trans LW6.out hk9⟩
namespace scoreAdds
theorem contract (H : Type) (enc : TypeId × Value → H) (W : World) (base : Nat) (args : Array Value) (ds gs : List (DataW H)) (before : List MemPlace)
    (hval0 : ∀ (j : Nat) t v, Try.f4.params[j]? = some t → args[j]? = some v → Value.okWide Try.prog W .any base t v)
    (hW : DataW.Whole enc Try.prog Try.f4.params.toList Rows.scoreAddsSpec.vars false W args.toList ds gs before) (hSh : W.ShapedOpen Try.prog) :
    Calls Try.prog 4 args W fun e W' => ∃ v, e = .returned v ∧ Rows.scoreAddsSpec.post enc Try.prog Try.f4 false true false false W args v W' := by
  have hval : ∀ (j : Nat) t v, Try.f4.params[j]? = some t → args[j]? = some v → Value.okWide Try.prog W .any base t v := hval0
  have hW' := hW
  obtain ⟨p, q, hA0, hV, _, _, _⟩ := hW
  have hA : DataW.TrodAll enc Try.prog W 0 (fun _ => true) true Try.f4.params.toList args.toList ds p := hA0
  rw [Try.params4] at hA hval
  obtain ⟨v0, vs0, d0, ds0, p0, q0, hargs, rfl, rfl, h0, r0⟩ := trodAll_cons hA
  obtain ⟨v1, vs1, d1, ds1, p1, q1, rfl, rfl, rfl, h1, r1⟩ := trodAll_cons r0
  obtain ⟨v2, vs2, d2, ds2, p2, q2, rfl, rfl, rfl, h2, r2⟩ := trodAll_cons r1
  obtain ⟨rfl, rfl, rfl⟩ := trodAll_nil r2
  obtain rfl : args = #[v0, v1, v2] := by cases args; simp_all
  obtain ⟨rfl, rfl⟩ := trodVars_none hV
  obtain ⟨i0, j0, y0, z0, rfl⟩ := open_score (hval 0 23 v0 rfl rfl) h0
  obtain ⟨i1, j1, y1, z1, rfl⟩ := open_two (hval 1 24 v1 rfl rfl) h1
  obtain ⟨i2, j2, k2, y2, z2, x2, rfl⟩ := open_three (hval 2 31 v2 rfl rfl) h2
  clear hA0 hval0
  refine (scoreAdds_walk W ⟨i0, j0⟩ ⟨y0, z0⟩ i1 j1 y1 z1 i2 j2 k2 y2 z2 x2).mono fun e W' ⟨he, hg⟩ => ?_
  subst he
  exact ⟨_, rfl, post_law laidOut (by kernel_rfl) (by kernel_rfl) Try.underlying4 rfl hW' rfl rfl rfl hg⟩
set_option maxRecDepth 100000 in
theorem lifted (os : Os) (started : os.Started) (H : Type) (enc : TypeId × Value → H) (F : Stop.Interp) :
    ReturnsInHanded {} Try.checked os 4 .any ((OpenSpec.ofChange Rows.scoreAddsSpec).preRow enc Try.prog Try.f4 Rows.scoreAddsRow.domain false Rows.scoreAddsRow.laid) (((OpenSpec.ofChange Rows.scoreAddsSpec).at F).post enc Try.prog Try.f4 false true false false) := by
  refine returnsInHanded_of_row (C := Try.checked) (s := OpenSpec.ofChange Rows.scoreAddsSpec) own started (by kernel_rfl) Try.func4
    (witness_laid (enc := enc) (C := Try.checked) (s := OpenSpec.ofChange Rows.scoreAddsSpec) (laid := Rows.scoreAddsRow.laid) #[.agg #[.int .i64 0, .int .i64 0], .agg #[.int .i64 0, .int .i64 0], .agg #[.int .i64 0, .int .i64 0, .int .i64 0]] (World.shaped_of_ZipB (by kernel_rfl) (by kernel_rfl)) (by kernel_rfl)
      (OpenSpec.preRow_of_cond 8 (x := ([.agg [.lit (.int .i64 0), .lit (.int .i64 0)], .agg [.lit (.int .i64 0), .lit (.int .i64 0)], .agg [.lit (.int .i64 0), .lit (.int .i64 0), .lit (.int .i64 0)]], [], [])) (by kernel_rfl) (by kernel_rfl) (fun k hk => by cases hk) (by kernel_rfl)
        (by rw [MakeChecks.laidMetH_plain _ _ _ (by kernel_rfl)]; exact laidMet_laidAll _ (by kernel_rfl) (by kernel_rfl)))) ?_
  intro W base args ds gs before hval hW _ hcond _ _ hsh _
  exact contract H enc W base args ds gs before hval hW hsh
theorem over : Rows.scoreAddsRow.holds Try.pinned (OpenSpec.ofChange Rows.scoreAddsSpec) :=
  OpenClaim.holds_of_cond 4 Try.f4 rfl rfl rfl rfl rfl rfl rfl ⟨rfl, rfl, rfl, rfl, rfl⟩ rfl rfl rfl rfl rfl (by kernel_rfl) Try.func4 (by kernel_rfl)
    (of_decide_eq_true (by kernel_rfl)) (by unfold Func.isWrapper; first | (rw [if_pos (by decide +kernel)]; kernel_rfl) | (rw [if_neg (by decide +kernel)]; exact ⟨rfl, rfl⟩))
    (fun os started H enc _ F => by rw [OpenClaim.pre_eq_preRow]; exact lifted os started H enc F)
/-- ████ THE STATEMENT ████ -/
theorem proved : Rows.ScoreAddsSaid := over
end scoreAdds
end Go.Proofs.Ytkeneeodmmfeiaa
