/- The law's own awake. -/
import Derived.Test.YtakldkolkdpcoaaLaw24
namespace Go.Proofs.Ytakldkolkdpcoaa.Hp
set_option maxRecDepth 100000
open Go.ChangeShapes Go.WideShapes Go.ChangeAt Go.RowKit
open Dec Words V4 V6 Ad Ci En Go.Deep
set_option linter.unusedVariables false
def k24 (k : Int) : It := ⟨k, zeroE⟩
def l24 : List It := [k24 5, k24 3, k24 4]
theorem k24_ok {k : Int} (h : -9223372036854775808 ≤ k ∧ k ≤ 9223372036854775807) : (k24 k).ok := ⟨h, zeroI_ok.2⟩
theorem l24_ok : ∀ x ∈ l24, x.ok := fun x hx => by
  simp only [l24, List.mem_cons, List.not_mem_nil, or_false] at hx
  rcases hx with rfl | rfl | rfl <;> exact k24_ok (by decide)
theorem l24_first : fn (makeH l24) 0 = k24 3 := by kernel_rfl
theorem l24_wrong : rightB [k24 5, k24 3] = false := by kernel_rfl
theorem l24_len : (popH (makeH l24)).length = 2 := by kernel_rfl
/-- Pop of a heap with items, its rest taken apart. -/
theorem pop_apart (v : Value) (l : List It) (w : World) (h : Items w v l) (h0 : 0 < l.length) (hok : ∀ x ∈ l, x.ok) (hl : l.length ≤ 900000) :
    Calls Try.prog 18 #[v] w fun e w' => ∃ A c, e = .returned (.tuple #[.agg #[.int .i64 (fn l 0).k, .bool (fn l 0).e.a.v6, .int .u64 (fn l 0).e.a.hi, .int .u64 (fn l 0).e.a.lo, .int .i64 (fn l 0).e.n], .slice A (popH l).length c, .bool true]) ∧ Items w' (.slice A (popH l).length c) (popH l) ∧ Below w.heap.size w w' :=
  (pop_some v l w h h0 (fn_ok hok) hl).mono fun e w' ⟨u, he, hu, hb⟩ => by
    have hu2 := hu
    obtain ⟨A, c, rfl, _⟩ := hu2
    exact ⟨A, c, he, hu, hb⟩
set_option maxHeartbeats 4000000 in
theorem awake24_any (w : World) : Calls Try.prog 5 #[] w fun e w' => e = .returned (.bool true) ∧ Below w.heap.size w w' := by
  have I0 : Items (w.alloc (.cells #[.int .i64 5, .bool false, .int .u64 0, .int .u64 0, .int .i64 0, .int .i64 3, .bool false, .int .u64 0, .int .u64 0, .int .i64 0, .int .i64 4, .bool false, .int .u64 0, .int .u64 0, .int .i64 0] 32)) (.slice (some ⟨w.heap.size, 0, none⟩) 3 3) l24 := Blk.reads (m := 3) encI_len (Blk.new w _ _) (by rfl) rfl (Nat.le_refl _)
  have K1 := Lib.hid (make_any _ l24 (w.alloc (.cells #[.int .i64 5, .bool false, .int .u64 0, .int .u64 0, .int .i64 0, .int .i64 3, .bool false, .int .u64 0, .int .u64 0, .int .i64 0, .int .i64 4, .bool false, .int .u64 0, .int .u64 0, .int .i64 0] 32)) I0 (fn_ok l24_ok) (by decide))
  have L0 : Hid (Below w.heap.size w (w.alloc (.cells #[.int .i64 5, .bool false, .int .u64 0, .int .u64 0, .int .i64 0, .int .i64 3, .bool false, .int .u64 0, .int .u64 0, .int .i64 0, .int .i64 4, .bool false, .int .u64 0, .int .u64 0, .int .i64 0] 32))) := Lib.hid (Below.alloc (Below.refl _ _) (Nat.le_refl _) _)
  clear I0
  go_enter Try.func5, Try.ntmps5
  go_wp2_with fail
  refine K1.out.mono ?_; rintro e w1 ⟨u1, rfl, hi1, hb1⟩
  have hok1 : ∀ x ∈ makeH l24, x.ok := perm_ok (makeH_perm l24) l24_ok
  have hp := pop_apart u1 (makeH l24) w1 hi1 (by rw [(makeH_perm l24).length_eq]; decide) hok1 (by rw [(makeH_perm l24).length_eq]; decide)
  rw [l24_first, l24_len] at hp
  have K2 := Lib.hid hp
  have L1 : Hid (Below w.heap.size w w1) := Lib.hid (L0.out.trans (hb1.mono (by simp)))
  clear hi1 hb1 K1 L0 hp hok1
  go_wp2_with fail
  refine K2.out.mono ?_; rintro e w2 ⟨A, c, rfl, hi2, hb2⟩
  have hok2 : ∀ x ∈ popH (makeH l24), x.ok := fun x hx => l24_ok x ((makeH_perm l24).mem_iff.1 ((popH_perm (l := makeH l24) (by rw [(makeH_perm l24).length_eq]; decide)).mem_iff.1 (List.mem_cons_of_mem _ hx)))
  have L2 : Hid (Below w.heap.size w (w2.alloc (.cells #[.int .i64 3, .bool false, .int .u64 0, .int .u64 0, .int .i64 0] 32))) := Lib.hid (Lows.alloc (low_trans3 L1.out hb2) _)
  have B2 : Blk (w2.alloc (.cells #[.int .i64 3, .bool false, .int .u64 0, .int .u64 0, .int .i64 0] 32)) w2.heap.size 32 [.int .i64 3, .bool false, .int .u64 0, .int .u64 0, .int .i64 0] := Blk.new w2 _ _
  have I2 : Items (w2.alloc (.cells #[.int .i64 3, .bool false, .int .u64 0, .int .u64 0, .int .i64 0] 32)) (.slice A 2 c) (popH (makeH l24)) := hi2.below (Lows.alloc (Lows.self _) _)
  have b0 := B2.cell (j := 0) rfl
  have b1 := B2.cell (j := 1) rfl
  have b2 := B2.cell (j := 2) rfl
  have b3 := B2.cell (j := 3) rfl
  have b4 := B2.cell (j := 4) rfl
  have K3 := Lib.hid (push_any _ (popH (makeH l24)) (k24 3) (w2.alloc (.cells #[.int .i64 3, .bool false, .int .u64 0, .int .u64 0, .int .i64 0] 32)) I2 (k24_ok (by decide)) (fn_ok hok2) (by rw [l24_len]; decide))
  have HO := Lib.hid hok2
  clear hi2 hb2 K2 L1 B2 I2 hok2
  go_wp2_with fail
  refine K3.out.mono ?_; rintro e w3 ⟨u3, rfl, hi3, hb3⟩
  have hok3 : ∀ x ∈ pushH (popH (makeH l24)) (k24 3), x.ok := perm_ok (pushH_perm _ _) (fun x hx => by
    rcases List.mem_cons.1 hx with rfl | hx
    · exact k24_ok (by decide)
    · exact HO.out x hx)
  have hr := right_any u3 _ w3 hi3 (fn_ok hok3) (by rw [(pushH_perm _ _).length_eq, List.length_cons, l24_len]; decide)
  rw [(right_iff _).2 (pushH_heap _ (popH_heap (makeH_heap l24)))] at hr
  have K4 := Lib.hid hr
  have L3 : Hid (Below w.heap.size w w3) := Lib.hid (low_trans3 L2.out hb3)
  clear hi3 hb3 K3 L2 hr hok3 HO b0 b1 b2 b3 b4
  go_wp2_with fail
  refine K4.out.mono ?_; rintro e w4 ⟨rfl, hb4⟩
  have L4 : Hid (Below w.heap.size w (w4.alloc (.cells #[.int .i64 5, .bool false, .int .u64 0, .int .u64 0, .int .i64 0, .int .i64 3, .bool false, .int .u64 0, .int .u64 0, .int .i64 0] 32))) := Lib.hid (Lows.alloc (low_trans3 L3.out hb4) _)
  have I4 : Items (w4.alloc (.cells #[.int .i64 5, .bool false, .int .u64 0, .int .u64 0, .int .i64 0, .int .i64 3, .bool false, .int .u64 0, .int .u64 0, .int .i64 0] 32)) (.slice (some ⟨w4.heap.size, 0, none⟩) 2 2) [k24 5, k24 3] := Blk.reads (m := 2) encI_len (Blk.new w4 _ _) (by rfl) rfl (Nat.le_refl _)
  have hr := right_any _ _ _ I4 (fn_ok (fun x hx => by
    simp only [List.mem_cons, List.not_mem_nil, or_false] at hx
    rcases hx with rfl | rfl <;> exact k24_ok (by decide))) (by decide)
  rw [l24_wrong] at hr
  have K5 := Lib.hid hr
  clear hb4 K4 L3 I4 hr
  go_wp2_with fail
  refine K5.out.mono ?_; rintro e w5 ⟨rfl, hb5⟩
  have L5 : Hid (Below w.heap.size w w5) := Lib.hid (low_trans3 L4.out hb5)
  clear hb5 K5 L4
  go_wp2_with fail
  go_ret
  exact ⟨rfl, L5.out⟩
end Go.Proofs.Ytakldkolkdpcoaa.Hp
