/- The second statement of layer 24, proved: whatever is pushed, and popped in between, the first is popped each time, and what is left is a heap of all others. -/
import Derived.Test.YtakldkolkdpcoaaLaw24Awake
import Derived.Deep.CutRange
import Derived.Deep.DeepCutAuto
namespace Go.Proofs.Ytakldkolkdpcoaa.Hp
set_option maxRecDepth 100000
open Go.ChangeShapes Go.WideShapes Go.ChangeAt Go.RowKit
open Dec Words V4 V6 Ad Ci En Go.Deep
set_option linter.unusedVariables false
/-- A heap, and the same items in order. -/
def Play (H Q : List It) (n : Nat) : Prop := Heap H ∧ Srt Q ∧ H.Perm Q ∧ (∀ x ∈ H, x.ok) ∧ H.length = n
theorem play_start (l : List It) (h : ∀ x ∈ l, x.ok) : Play (makeH l) (sortX l) l.length :=
  ⟨makeH_heap l, sortX_srt l, (makeH_perm l).trans (sortX_perm l).symm, perm_ok (makeH_perm l) h, (makeH_perm l).length_eq⟩
theorem play_push {H Q : List It} {n : Nat} {x : It} (h : Play H Q n) (hx : x.ok) : Play (pushH H x) (putX Q x) (n + 1) := by
  obtain ⟨h1, h2, h3, h4, h5⟩ := h
  refine ⟨pushH_heap x h1, putX_srt x h2, (pushH_perm H x).trans ((h3.cons x).trans (putX_perm Q x).symm), perm_ok (pushH_perm H x) (fun y hy => ?_), by rw [(pushH_perm H x).length_eq, List.length_cons, h5]⟩
  rcases List.mem_cons.1 hy with rfl | hy
  · exact hx
  · exact h4 y hy
theorem play_len {H Q : List It} {n : Nat} (h : Play H Q n) : Q.length = n := h.2.2.1.length_eq.symm.trans h.2.2.2.2
theorem play_pop {H Q : List It} {m n : Nat} (h : Play H Q m) (hm : m = n + 1) : fn H 0 = fn Q 0 ∧ Play (popH H) (Q.drop 1) n := by
  obtain ⟨h1, h2, h3, h4, h5⟩ := h
  have h0 : 0 < H.length := by omega
  obtain ⟨e, hp⟩ := pop_first h1 h2 h3 h0
  refine ⟨e, popH_heap h1, h2.drop, hp, fun x hx => h4 x ((popH_perm h0).mem_iff.1 (List.mem_cons_of_mem _ hx)), by rw [popH_length]; omega⟩
theorem play_sort {H Q : List It} {n : Nat} (h : Play H Q n) : sortX H = Q := srt_one (sortX_srt H) h.2.1 ((sortX_perm H).trans h.2.2.1)
theorem items_slice {w : World} {v : Value} {l : List It} {n : Nat} (h : Items w v l) (hn : l.length = n) : ∃ A c, v = .slice A n c ∧ Items w (.slice A n c) l := by
  have h2 := h
  obtain ⟨A, c, rfl, _⟩ := h2
  rw [hn] at h ⊢
  exact ⟨A, c, rfl, h⟩
theorem items_ask {w : World} {A : Option Addr} {n c : Nat} {l : List It} (h : Items w (.slice A n c) l) (h0 : 0 < l.length) : ∃ b o, A = some ⟨b, o, none⟩ ∧ b < w.heap.size ∧ n = l.length ∧ n ≤ c ∧ ∀ i, i < l.length → ∀ j u, (encI (fn l i))[j]? = some u → w.cell? ⟨b, o + i * 5 + j, none⟩ = some u := by
  obtain ⟨A', c', e, h1, _, h3⟩ := h
  cases e
  obtain ⟨b, o, rfl, hb, hc⟩ := h3 h0
  exact ⟨b, o, rfl, hb, rfl, h1, fun i hi j u hu => hc i hi j u (by rw [show fn l i = l[i] from getElem!_pos l i hi] at hu; exact hu)⟩
theorem items_tail {w : World} {b o m c n : Nat} {l : List It} (h : Items w (.slice (some ⟨b, o, none⟩) m c) l) (hm : m = n + 1) : Items w (.slice (some ⟨b, o + 5, none⟩) n (c - 1)) (l.drop 1) := by
  have h2 := h
  obtain ⟨A', c', e, h1, _, _⟩ := h2
  have e1 : m = l.length := by cases e; rfl
  have := h.rest (i := 1) (by omega)
  rw [Nat.one_mul, show m - 1 = n by omega] at this
  exact this
theorem items_tail1 {w : World} {b o m n : Nat} {l : List It} (h : Items w (.slice (some ⟨b, o, none⟩) m 1) l) (hm : m = n + 1) : n = 0 ∧ Items w (.slice (some ⟨b, o, none⟩) 0 0) (l.drop 1) := by
  obtain ⟨A', c', e, h1, _, _⟩ := h
  cases e
  have e0 : n = 0 := by omega
  have e1 : l.drop 1 = [] := List.drop_of_length_le (by omega)
  rw [e1]
  exact ⟨e0, Recs.void _ _ _ _ (fun h => by cases h)⟩
def lenOf (v : Value) : Nat := match v with | .slice _ n _ => n | _ => 0
set_option maxHeartbeats 24000000 in
theorem heapPlays_walk (w : World) (v0 : Value) (lb : List It) (h0 : Items w v0 lb) (hok0 : ∀ x ∈ lb, x.ok) (v1 : Value) (ll : List It) (h1 : Items w v1 ll) (hok1 : ∀ x ∈ ll, x.ok) (v2 : Value) (lp : List Bool) (h2 : Bools w v2 lp) (hok2 : ∀ x ∈ lp, True) :
    Calls Try.prog 4 #[v0, v1, v2] w fun e w' => e = .returned (.bool true) ∧ Below w.heap.size w w' := by
  have AW := Lib.hid (fun W => awake24_any W)
  have P0 := Lib.hid h0
  have P1 := Lib.hid h1
  obtain ⟨A0, c0, rfl, _, _, _⟩ := h0
  obtain ⟨A1, c1, rfl, _, _, hcell1⟩ := h1
  obtain ⟨A2, c2, rfl, _, _, hcell2⟩ := h2
  have HC1 := Lib.hid hcell1
  have HC2 := Lib.hid hcell2
  have HO0 := Lib.hid hok0
  have HO1 := Lib.hid hok1
  clear hcell1 hcell2 hok0 hok1 hok2
  by_cases hb40 : 40 < lb.length
  · have hb40z : (40 : Int) < (lb.length : Int) := by omega
    go_enter Try.func4, Try.ntmps4
    go_wp2_with fail
    refine (AW.out _).mono ?_; rintro e w1 ⟨rfl, hb1⟩
    go_wp2_with fail
    go_ret
    exact ⟨rfl, hb1⟩
  · have hb40z : ¬ (40 : Int) < (lb.length : Int) := by omega
    by_cases hl40 : 40 < ll.length
    · have hl40z : (40 : Int) < (ll.length : Int) := by omega
      go_enter Try.func4, Try.ntmps4
      go_wp2_with fail
      refine (AW.out _).mono ?_; rintro e w1 ⟨rfl, hb1⟩
      go_wp2_with fail
      go_ret
      exact ⟨rfl, hb1⟩
    · have hl40z : ¬ (40 : Int) < (ll.length : Int) := by omega
      have HBB := Lib.hid (show lb.length ≤ 40 ∧ ll.length ≤ 40 by omega)
      have K1 := Lib.hid (to_any _ lb w P0.out (by omega))
      clear hb40 hl40
      go_enter Try.func4, Try.ntmps4
      go_wp2_with fail
      refine K1.out.mono ?_; rintro e w1 ⟨u1, rfl, hi1, hb1⟩
      have K2 := Lib.hid (make_any u1 lb w1 hi1 (fn_ok HO0.out) (by have := HBB.out; omega))
      have L1 := Lib.hid hb1
      clear hi1 hb1 K1
      go_wp2_with fail
      refine K2.out.mono ?_; rintro e w2 ⟨u2, rfl, hi2, hb2⟩
      have L2 : Hid (Below w.heap.size w w2) := Lib.hid (low_trans3 L1.out hb2)
      have K3 := Lib.hid (of_any _ lb w2 (P0.out.below L2.out) (by have := HBB.out; omega))
      have I2 := Lib.hid hi2
      clear hi2 hb2 K2 L1
      go_wp2_with fail
      refine K3.out.mono ?_; rintro e w3 ⟨u3, rfl, hi3, hb3⟩
      have L3 : Hid (Below w.heap.size w w3) := Lib.hid (low_trans3 L2.out hb3)
      have I3 := Lib.hid (I2.out.below hb3)
      have K4 := Lib.hid (rsorted_any u3 lb w3 hi3 (fn_ok HO0.out) (by have := HBB.out; omega))
      clear hi3 hb3 K3 L2 I2
      go_wp2_with fail
      refine K4.out.mono ?_; rintro e w4 ⟨u4, rfl, hi4, hb4⟩
      have L4 : Hid (Below w.heap.size w w4) := Lib.hid (low_trans3 L3.out hb4)
      obtain ⟨n0, hn0⟩ : ∃ n, n = lb.length := ⟨_, rfl⟩
      have HP0 : Hid (Play (makeH lb) (sortX lb) n0) := Lib.hid (by rw [hn0]; exact play_start lb HO0.out)
      obtain ⟨A3, c3, rfl, hI3⟩ := items_slice (I3.out.below hb4) HP0.out.2.2.2.2
      obtain ⟨A4, c4, rfl, hI4⟩ := items_slice hi4 (play_len HP0.out)
      have I4 := Lib.hid hI3
      have J4 := Lib.hid hI4
      have HN0 : Hid (n0 ≤ 40) := Lib.hid (by have := HBB.out; omega)
      clear hi4 hb4 K4 L3 I3 hI3 hI4 hn0
      go_wp2_with fail
      go_loopw [7, 8, 9] (fun s7 s8 s9 wr => ∃ (i n : Nat) (H0 Q0 : List It) (A5 A6 : Option Addr) (c5 c6 : Nat), s7 = .slice A5 n c5 ∧ s8 = .slice A6 n c6 ∧ s9 = .int .i64 i ∧ i ≤ ll.length ∧ Hid (n ≤ 40 + i) ∧ Hid (Play H0 Q0 n) ∧ Hid (Items wr (.slice A5 n c5) H0) ∧ Hid (Items wr (.slice A6 n c6) Q0) ∧ Hid (Below w.heap.size w wr)) (fun _ _ s9 _ => ll.length - (intOf s9).toNat)
      case atStart => exact ⟨0, n0, _, _, A3, A4, c3, c4, rfl, rfl, rfl, Nat.zero_le _, Lib.hid (by have := HN0.out; omega), HP0, I4, J4, L4⟩
      case round =>
        obtain ⟨i, n, H0, Q0, A5, A6, c5, c6, rfl, rfl, rfl, hi, HNI, HP, I5, I6, HL⟩ := hrel
        clear I4 J4 L4 HP0 HN0
        by_cases hli : i < ll.length
        · have hliz : (i : Int) < (ll.length : Int) := by omega
          obtain ⟨bb, o, rfl, hb, hcc⟩ := HC1.out (by omega)
          obtain ⟨x, hx⟩ : ∃ x, x = fn ll i := ⟨_, rfl⟩
          have HXO : Hid x.ok := Lib.hid (by rw [hx]; exact fn_ok HO1.out i hli)
          have HXC : Hid (∀ X, Below w.heap.size w X → ∀ j u, (encI x)[j]? = some u → X.cell? ⟨bb, o + i * 5 + j, none⟩ = some u) := Lib.hid fun X hX j u hu => item_at hX hb hcc hli (by rw [← hx]; exact hu)
          obtain ⟨m, hm⟩ : ∃ m, m = n + 1 := ⟨_, rfl⟩
          have HMN := Lib.hid hm
          have HP1 : Hid (Play (pushH H0 x) (putX Q0 x) m) := Lib.hid (by rw [hm]; exact play_push HP.out HXO.out)
          have HMM : Hid ((pushH H0 x).length = m) := Lib.hid HP1.out.2.2.2.2
          have HB8 : Hid (n ≤ 80) := Lib.hid (by have := HNI.out; have := HBB.out; omega)
          obtain ⟨wr0, hwr0⟩ : ∃ W, W = wr := ⟨_, rfl⟩
          subst hwr0
          clear hx hb hcc hm
          go_wp2_with fail
          go_upto_region 7 with fail
          go_cut [7] from 40 to 52 (fun s wx => ∃ (A9 : Option Addr) (c9 : Nat) (Wq : World), Wq = wx ∧ s = .slice A9 m c9 ∧ Hid (Items wx (.slice A9 m c9) (pushH H0 x)) ∧ Hid (Below wr0.heap.size wr0 wx))
          case first =>
            have IN : Hid (∀ w', Below wr0.heap.size wr0 w' → w'.cell? ⟨bb, o + i * 5, none⟩ = some (.int .i64 x.k) ∧ w'.cell? ⟨bb, o + i * 5 + 1, none⟩ = some (.bool x.e.a.v6) ∧ w'.cell? ⟨bb, o + i * 5 + 2, none⟩ = some (.int .u64 x.e.a.hi) ∧ w'.cell? ⟨bb, o + i * 5 + 3, none⟩ = some (.int .u64 x.e.a.lo) ∧ w'.cell? ⟨bb, o + i * 5 + 4, none⟩ = some (.int .i64 x.e.n) ∧ Below wr0.heap.size wr0 w') := Lib.hid fun w' h => ⟨HXC.out w' (low_trans3 HL.out h) 0 (.int .i64 x.k) rfl, HXC.out w' (low_trans3 HL.out h) 1 (.bool x.e.a.v6) rfl, HXC.out w' (low_trans3 HL.out h) 2 (.int .u64 x.e.a.hi) rfl, HXC.out w' (low_trans3 HL.out h) 3 (.int .u64 x.e.a.lo) rfl, HXC.out w' (low_trans3 HL.out h) 4 (.int .i64 x.e.n) rfl, h⟩
            have KP : Hid (∀ X, (fun w' => w'.cell? ⟨bb, o + i * 5, none⟩ = some (.int .i64 x.k) ∧ w'.cell? ⟨bb, o + i * 5 + 1, none⟩ = some (.bool x.e.a.v6) ∧ w'.cell? ⟨bb, o + i * 5 + 2, none⟩ = some (.int .u64 x.e.a.hi) ∧ w'.cell? ⟨bb, o + i * 5 + 3, none⟩ = some (.int .u64 x.e.a.lo) ∧ w'.cell? ⟨bb, o + i * 5 + 4, none⟩ = some (.int .i64 x.e.n) ∧ Below wr0.heap.size wr0 w') X → Calls Try.prog 16 #[.slice A5 n c5, .agg #[.int .i64 x.k, .bool x.e.a.v6, .int .u64 x.e.a.hi, .int .u64 x.e.a.lo, .int .i64 x.e.n]] X fun e w' => ∃ A9 c9, e = .returned (.slice A9 m c9) ∧ Items w' (.slice A9 m c9) (pushH H0 x) ∧ (fun w' => w'.cell? ⟨bb, o + i * 5, none⟩ = some (.int .i64 x.k) ∧ w'.cell? ⟨bb, o + i * 5 + 1, none⟩ = some (.bool x.e.a.v6) ∧ w'.cell? ⟨bb, o + i * 5 + 2, none⟩ = some (.int .u64 x.e.a.hi) ∧ w'.cell? ⟨bb, o + i * 5 + 3, none⟩ = some (.int .u64 x.e.a.lo) ∧ w'.cell? ⟨bb, o + i * 5 + 4, none⟩ = some (.int .i64 x.e.n) ∧ Below wr0.heap.size wr0 w') w') := Lib.hid fun X h => (push_any _ H0 x X (I5.out.below h.2.2.2.2.2) HXO.out (fn_ok HP.out.2.2.2.1) (by have := HP.out.2.2.2.2; have := HB8.out; omega)).mono fun e w' ⟨u, he, hu, hb⟩ => by
              obtain ⟨A9, c9, rfl, hI9⟩ := items_slice hu HMM.out
              exact ⟨A9, c9, he, hI9, IN.out _ (low_trans h.2.2.2.2.2 hb)⟩
            have hk0 := IN.out _ (Below.refl _ _)
            have JD : Hid (∀ X, (fun w' => w'.cell? ⟨bb, o + i * 5, none⟩ = some (.int .i64 x.k) ∧ w'.cell? ⟨bb, o + i * 5 + 1, none⟩ = some (.bool x.e.a.v6) ∧ w'.cell? ⟨bb, o + i * 5 + 2, none⟩ = some (.int .u64 x.e.a.hi) ∧ w'.cell? ⟨bb, o + i * 5 + 3, none⟩ = some (.int .u64 x.e.a.lo) ∧ w'.cell? ⟨bb, o + i * 5 + 4, none⟩ = some (.int .i64 x.e.n) ∧ Below wr0.heap.size wr0 w') X → (fun w' => w'.cell? ⟨bb, o + i * 5, none⟩ = some (.int .i64 x.k) ∧ w'.cell? ⟨bb, o + i * 5 + 1, none⟩ = some (.bool x.e.a.v6) ∧ w'.cell? ⟨bb, o + i * 5 + 2, none⟩ = some (.int .u64 x.e.a.hi) ∧ w'.cell? ⟨bb, o + i * 5 + 3, none⟩ = some (.int .u64 x.e.a.lo) ∧ w'.cell? ⟨bb, o + i * 5 + 4, none⟩ = some (.int .i64 x.e.n) ∧ Below wr0.heap.size wr0 w') X.drew) := Lib.hid fun X h => IN.out _ (low_drewN h.2.2.2.2.2 1)
            dsimp only at KP JD hk0
            clear IN
            obtain ⟨x0, x1, x2, x3, x4, hk9⟩ := id hk0
            go_region_held3 (fun w' => w'.cell? ⟨bb, o + i * 5, none⟩ = some (.int .i64 x.k) ∧ w'.cell? ⟨bb, o + i * 5 + 1, none⟩ = some (.bool x.e.a.v6) ∧ w'.cell? ⟨bb, o + i * 5 + 2, none⟩ = some (.int .u64 x.e.a.hi) ∧ w'.cell? ⟨bb, o + i * 5 + 3, none⟩ = some (.int .u64 x.e.a.lo) ∧ w'.cell? ⟨bb, o + i * 5 + 4, none⟩ = some (.int .i64 x.e.n) ∧ Below wr0.heap.size wr0 w')
              (first | (with_reducible assumption) | (with_reducible exact JD.out _ (by with_reducible assumption)))
              (first
                | (go_at_call 16; (with_reducible refine (KP.out _ (by with_reducible assumption)).mono ?_); rintro e w9 ⟨A9, c9, rfl, hI9, hkw⟩; have hkq := hkw.2.2.2.2.2))
            all_goals
              go_wp2_with fail
              go_meet
              exact ⟨A9, c9, _, rfl, rfl, Lib.hid hI9, Lib.hid hkq⟩
          case rest =>
            obtain ⟨A7, c7, W7, rfl, rfl, I7, L7⟩ := hcut
            have HMM : Hid ((putX Q0 x).length = m) := Lib.hid (play_len HP1.out)
            have LW7 : Hid (Below w.heap.size w W7) := Lib.hid (low_trans3 HL.out L7.out)
            have I8 := Lib.hid (I6.out.below L7.out)
            go_upto_region 8 with fail
            go_cut [8] from 53 to 65 (fun s wx => ∃ (A9 : Option Addr) (c9 : Nat) (Wq : World), Wq = wx ∧ s = .slice A9 m c9 ∧ Hid (Items wx (.slice A9 m c9) (putX Q0 x)) ∧ Hid (Below W7.heap.size W7 wx))
            case first =>
              have IN : Hid (∀ w', Below W7.heap.size W7 w' → w'.cell? ⟨bb, o + i * 5, none⟩ = some (.int .i64 x.k) ∧ w'.cell? ⟨bb, o + i * 5 + 1, none⟩ = some (.bool x.e.a.v6) ∧ w'.cell? ⟨bb, o + i * 5 + 2, none⟩ = some (.int .u64 x.e.a.hi) ∧ w'.cell? ⟨bb, o + i * 5 + 3, none⟩ = some (.int .u64 x.e.a.lo) ∧ w'.cell? ⟨bb, o + i * 5 + 4, none⟩ = some (.int .i64 x.e.n) ∧ Below W7.heap.size W7 w') := Lib.hid fun w' h => ⟨HXC.out w' (low_trans3 LW7.out h) 0 (.int .i64 x.k) rfl, HXC.out w' (low_trans3 LW7.out h) 1 (.bool x.e.a.v6) rfl, HXC.out w' (low_trans3 LW7.out h) 2 (.int .u64 x.e.a.hi) rfl, HXC.out w' (low_trans3 LW7.out h) 3 (.int .u64 x.e.a.lo) rfl, HXC.out w' (low_trans3 LW7.out h) 4 (.int .i64 x.e.n) rfl, h⟩
              have KP : Hid (∀ X, (fun w' => w'.cell? ⟨bb, o + i * 5, none⟩ = some (.int .i64 x.k) ∧ w'.cell? ⟨bb, o + i * 5 + 1, none⟩ = some (.bool x.e.a.v6) ∧ w'.cell? ⟨bb, o + i * 5 + 2, none⟩ = some (.int .u64 x.e.a.hi) ∧ w'.cell? ⟨bb, o + i * 5 + 3, none⟩ = some (.int .u64 x.e.a.lo) ∧ w'.cell? ⟨bb, o + i * 5 + 4, none⟩ = some (.int .i64 x.e.n) ∧ Below W7.heap.size W7 w') X → Calls Try.prog 17 #[.slice A6 n c6, .agg #[.int .i64 x.k, .bool x.e.a.v6, .int .u64 x.e.a.hi, .int .u64 x.e.a.lo, .int .i64 x.e.n]] X fun e w' => ∃ A9 c9, e = .returned (.slice A9 m c9) ∧ Items w' (.slice A9 m c9) (putX Q0 x) ∧ (fun w' => w'.cell? ⟨bb, o + i * 5, none⟩ = some (.int .i64 x.k) ∧ w'.cell? ⟨bb, o + i * 5 + 1, none⟩ = some (.bool x.e.a.v6) ∧ w'.cell? ⟨bb, o + i * 5 + 2, none⟩ = some (.int .u64 x.e.a.hi) ∧ w'.cell? ⟨bb, o + i * 5 + 3, none⟩ = some (.int .u64 x.e.a.lo) ∧ w'.cell? ⟨bb, o + i * 5 + 4, none⟩ = some (.int .i64 x.e.n) ∧ Below W7.heap.size W7 w') w') := Lib.hid fun X h => (rput_any _ Q0 x X (I8.out.below h.2.2.2.2.2) HXO.out (fn_ok (perm_ok HP.out.2.2.1.symm HP.out.2.2.2.1)) (by have := play_len HP.out; have := HB8.out; omega)).mono fun e w' ⟨u, he, hu, hb⟩ => by
                obtain ⟨A9, c9, rfl, hI9⟩ := items_slice hu HMM.out
                exact ⟨A9, c9, he, hI9, IN.out _ (low_trans h.2.2.2.2.2 hb)⟩
              have hk0 := IN.out _ (Below.refl _ _)
              have JD : Hid (∀ X, (fun w' => w'.cell? ⟨bb, o + i * 5, none⟩ = some (.int .i64 x.k) ∧ w'.cell? ⟨bb, o + i * 5 + 1, none⟩ = some (.bool x.e.a.v6) ∧ w'.cell? ⟨bb, o + i * 5 + 2, none⟩ = some (.int .u64 x.e.a.hi) ∧ w'.cell? ⟨bb, o + i * 5 + 3, none⟩ = some (.int .u64 x.e.a.lo) ∧ w'.cell? ⟨bb, o + i * 5 + 4, none⟩ = some (.int .i64 x.e.n) ∧ Below W7.heap.size W7 w') X → (fun w' => w'.cell? ⟨bb, o + i * 5, none⟩ = some (.int .i64 x.k) ∧ w'.cell? ⟨bb, o + i * 5 + 1, none⟩ = some (.bool x.e.a.v6) ∧ w'.cell? ⟨bb, o + i * 5 + 2, none⟩ = some (.int .u64 x.e.a.hi) ∧ w'.cell? ⟨bb, o + i * 5 + 3, none⟩ = some (.int .u64 x.e.a.lo) ∧ w'.cell? ⟨bb, o + i * 5 + 4, none⟩ = some (.int .i64 x.e.n) ∧ Below W7.heap.size W7 w') X.drew) := Lib.hid fun X h => IN.out _ (low_drewN h.2.2.2.2.2 1)
              dsimp only at KP JD hk0
              clear IN
              obtain ⟨x0, x1, x2, x3, x4, hk9⟩ := id hk0
              go_region_held3 (fun w' => w'.cell? ⟨bb, o + i * 5, none⟩ = some (.int .i64 x.k) ∧ w'.cell? ⟨bb, o + i * 5 + 1, none⟩ = some (.bool x.e.a.v6) ∧ w'.cell? ⟨bb, o + i * 5 + 2, none⟩ = some (.int .u64 x.e.a.hi) ∧ w'.cell? ⟨bb, o + i * 5 + 3, none⟩ = some (.int .u64 x.e.a.lo) ∧ w'.cell? ⟨bb, o + i * 5 + 4, none⟩ = some (.int .i64 x.e.n) ∧ Below W7.heap.size W7 w')
                (first | (with_reducible assumption) | (with_reducible exact JD.out _ (by with_reducible assumption)))
                (first
                  | (go_at_call 17; (with_reducible refine (KP.out _ (by with_reducible assumption)).mono ?_); rintro e w9 ⟨A9, c9, rfl, hI9, hkw⟩; have hkq := hkw.2.2.2.2.2))
              all_goals
                go_wp2_with fail
                go_meet
                exact ⟨A9, c9, _, rfl, rfl, Lib.hid hI9, Lib.hid hkq⟩
            case rest =>
              obtain ⟨A8, c8, W8, rfl, rfl, I9, L8⟩ := hcut
              have LW8 : Hid (Below w.heap.size w W8) := Lib.hid (low_trans3 LW7.out L8.out)
              have I7b := Lib.hid (I7.out.below L8.out)
              have K9 : Hid (Calls Try.prog 6 #[.slice A7 m c7] W8 fun e w' => e = .returned (.bool true) ∧ Below W8.heap.size W8 w') := Lib.hid (by
                have k := right_any _ _ W8 I7b.out (fn_ok HP1.out.2.2.2.1) (by have := HP1.out.2.2.2.2; have := HB8.out; have := HMN.out; omega)
                rwa [(right_iff _).2 HP1.out.1] at k)
              have zmm : ((m : Int) != (m : Int)) = false := by simp
              clear I7 I8 L7 L8 LW7 I5 I6 HL HXC HP
              go_wp2_with fail
              refine K9.out.mono ?_; rintro e w9 ⟨rfl, hb9⟩
              have LW9 : Hid (Below w.heap.size w w9) := Lib.hid (low_trans3 LW8.out hb9)
              have I10 := Lib.hid (I7b.out.below hb9)
              have I11 := Lib.hid (I9.out.below hb9)
              clear hb9 K9 I7b I9 LW8
              obtain ⟨H1, hH1⟩ : ∃ L, L = pushH H0 x := ⟨_, rfl⟩
              obtain ⟨Q1, hQ1⟩ : ∃ L, L = putX Q0 x := ⟨_, rfl⟩
              rw [← hH1] at HP1 I10
              rw [← hQ1] at HP1 I11
              have HMB : Hid (m ≤ 40 + (i + 1)) := Lib.hid (by have := HNI.out; have := HMN.out; omega)
              clear hH1 hQ1 HMM HXO HNI
              by_cases hlp : i < lp.length
              · have hlpz : (i : Int) < (lp.length : Int) := by omega
                obtain ⟨bp, op, rfl, hbp, hcp⟩ := HC2.out (by omega)
                have hpc := (LW9.out.cell (p := ⟨bp, op + i * 1 + 0, none⟩) hbp).trans (hcp i hlp 0 _ rfl)
                rw [Nat.add_zero, Nat.mul_one] at hpc
                cases hq : lp[i] with
                | false =>
                  rw [hq] at hpc
                  clear hcp hbp hq
                  go_wp2_with fail
                  go_roundw
                  case rel => exact ⟨i + 1, m, H1, Q1, A7, A8, c7, c8, rfl, rfl, by go_num, by omega, HMB, HP1, I10, I11, LW9⟩
                  case measure => simp [intOf]; omega
                | true =>
                  rw [hq] at hpc
                  clear hcp hbp hq
                  have KP := Lib.hid (pop_apart _ _ w9 I10.out (by have := HP1.out.2.2.2.2; have := HMN.out; omega) HP1.out.2.2.2.1 (by have := HP1.out.2.2.2.2; have := HB8.out; have := HMN.out; omega))
                  obtain ⟨y, hy⟩ : ∃ y, y = fn H1 0 := ⟨_, rfl⟩
                  rw [← hy] at KP
                  have HPP := Lib.hid (play_pop HP1.out HMN.out)
                  have hyq : y = fn Q1 0 := hy.trans HPP.out.1
                  have hlp : (popH H1).length = n := HPP.out.2.2.2.2.2
                  rw [hlp] at KP
                  obtain ⟨bq, oq, hA2, hbq, hmq, hmc, hcq⟩ := items_ask I11.out (by have := play_len HP1.out; have := HMN.out; omega)
                  subst hA2
                  have HQC : Hid (∀ X, Below w9.heap.size w9 X → ∀ j u, (encI y)[j]? = some u → X.cell? ⟨bq, oq + j, none⟩ = some u) := Lib.hid fun X hX j u hu => by
                    have h0 := hcq 0 (by have := play_len HP1.out; have := HMN.out; omega) j u (by rw [← hyq]; exact hu)
                    rw [Nat.zero_mul, Nat.add_zero] at h0
                    exact (hX.cell (p := ⟨bq, oq + j, none⟩) hbq).trans h0
                  clear hy hyq hcq hlp hmq
                  go_wp2_with fail
                  refine KP.out.mono ?_; rintro e w5 ⟨A5, c5, rfl, hi5, hb5⟩
                  have H5 := Lib.hid hi5
                  have L5 := Lib.hid hb5
                  clear KP hi5 hb5
                  obtain ⟨W6, hW6⟩ : ∃ W, W = w5.alloc (.cells #[.int .i64 y.k, .bool y.e.a.v6, .int .u64 y.e.a.hi, .int .u64 y.e.a.lo, .int .i64 y.e.n] 32) := ⟨_, rfl⟩
                  have L6 : Hid (Below w9.heap.size w9 W6) := Lib.hid (by rw [hW6]; exact Lows.alloc L5.out _)
                  have B6 : Hid (Blk W6 w5.heap.size 32 [.int .i64 y.k, .bool y.e.a.v6, .int .u64 y.e.a.hi, .int .u64 y.e.a.lo, .int .i64 y.e.n]) := Lib.hid (by rw [hW6]; exact Blk.new w5 _ _)
                  have I6 : Hid (Items W6 (.slice A5 n c5) (popH H1)) := Lib.hid (by rw [hW6]; exact H5.out.below (Lows.alloc (Lows.self _) _))
                  have KR : Hid (∀ X, Lows W6 X → Calls Try.prog 6 #[.slice A5 n c5] X fun e w' => e = .returned (.bool true) ∧ Lows W6 w') := Lib.hid fun X hX => by
                    have k := right_any _ (popH H1) X (I6.out.below hX) (fn_ok HPP.out.2.2.2.2.1) (by have := HPP.out.2.2.2.2.2; have := HMN.out; have := HB8.out; omega)
                    rw [(right_iff _).2 HPP.out.2.1] at k
                    exact k.mono fun e w' ⟨he, hb⟩ => ⟨he, low_trans hX hb⟩
                  have hne : Nonempty (Cls (Lows W6)) := ⟨⟨_, Lows.self _⟩⟩
                  have NQ : ∀ W : World, (binOp .neq 27 (.agg #[.bool y.e.a.v6, .int .u64 y.e.a.hi, .int .u64 y.e.a.lo, .int .i64 y.e.n]) (.agg #[.bool y.e.a.v6, .int .u64 y.e.a.hi, .int .u64 y.e.a.lo, .int .i64 y.e.n])).run Try.prog W = .ok (.bool false) W := fun W => by
                    have h := neqEnd y.e y.e W
                    rw [same_selfE] at h
                    exact h
                  have NK : (y.k != y.k) = false := by simp
                  have hm0z : (0 : Int) < (m : Int) := by have := HMN.out; omega
                  have hwn : IntKind.i64.wrap ((m : Int) - 1) = (n : Int) := by have := HMN.out; have := HB8.out; rw [IntKind.wrap_i64]; omega
                  have znn : ((n : Int) != (n : Int)) = false := by simp
                  have f0 : ∀ nq : Cls (Lows W6), nq.w.cell? ⟨w5.heap.size, 0, none⟩ = some (.int .i64 y.k) := fun nq => Blk.in B6 nq.h rfl
                  have f1 : ∀ nq : Cls (Lows W6), nq.w.cell? ⟨w5.heap.size, 1, none⟩ = some (.bool y.e.a.v6) := fun nq => Blk.in B6 nq.h rfl
                  have f2 : ∀ nq : Cls (Lows W6), nq.w.cell? ⟨w5.heap.size, 2, none⟩ = some (.int .u64 y.e.a.hi) := fun nq => Blk.in B6 nq.h rfl
                  have f3 : ∀ nq : Cls (Lows W6), nq.w.cell? ⟨w5.heap.size, 3, none⟩ = some (.int .u64 y.e.a.lo) := fun nq => Blk.in B6 nq.h rfl
                  have f4 : ∀ nq : Cls (Lows W6), nq.w.cell? ⟨w5.heap.size, 4, none⟩ = some (.int .i64 y.e.n) := fun nq => Blk.in B6 nq.h rfl
                  have g0 : ∀ nq : Cls (Lows W6), nq.w.cell? ⟨bq, oq, none⟩ = some (.int .i64 y.k) := fun nq => HQC.out _ (low_trans L6.out nq.h) 0 _ rfl
                  have g1 : ∀ nq : Cls (Lows W6), nq.w.cell? ⟨bq, oq + 1, none⟩ = some (.bool y.e.a.v6) := fun nq => HQC.out _ (low_trans L6.out nq.h) 1 _ rfl
                  have g2 : ∀ nq : Cls (Lows W6), nq.w.cell? ⟨bq, oq + 2, none⟩ = some (.int .u64 y.e.a.hi) := fun nq => HQC.out _ (low_trans L6.out nq.h) 2 _ rfl
                  have g3 : ∀ nq : Cls (Lows W6), nq.w.cell? ⟨bq, oq + 3, none⟩ = some (.int .u64 y.e.a.lo) := fun nq => HQC.out _ (low_trans L6.out nq.h) 3 _ rfl
                  have g4 : ∀ nq : Cls (Lows W6), nq.w.cell? ⟨bq, oq + 4, none⟩ = some (.int .i64 y.e.n) := fun nq => HQC.out _ (low_trans L6.out nq.h) 4 _ rfl
                  clear H5
                  go_wp2_with fail
                  rw [← hW6]
                  clear hW6
                  refine Cls.region (Lows W6) (by kernel_rfl) (by kernel_rfl) (low_drewN (Below.refl _ _) 1) ?_
                  (try dsimp only [List.append])
                  repeat (go_big_quiet_step (first | fail | (with_reducible exact Cls.call (KR.out _ (Cls.h _)))))
                  refine wpQuiet_nil ?_
                  intro n9
                  have hk9 := n9.h
                  generalize n9.w = wz at hk9 ⊢
                  have HPN := Lib.hid HPP.out.2
                  have IZ := Lib.hid (I6.out.below hk9)
                  have JZ := Lib.hid (I11.out.below (low_trans L6.out hk9))
                  have LZ : Hid (Below w.heap.size w wz) := Lib.hid (low_trans3 LW9.out (low_trans L6.out hk9))
                  clear hne n9 hk9 f0 f1 f2 f3 f4 g0 g1 g2 g3 g4 NQ NK KR B6 I6 L5 L6 HQC HPP znn hwn hm0z
                  by_cases hc1 : c8 = 1
                  · subst hc1
                    obtain ⟨rfl, hjt⟩ := items_tail1 JZ.out HMN.out
                    have JT := Lib.hid hjt
                    obtain rfl := HMN.out
                    clear hjt hmc HMN JZ
                    go_wp2_with fail
                    go_roundw
                    case rel => exact ⟨i + 1, 0, popH H1, Q1.drop 1, A5, _, c5, 0, rfl, rfl, by go_num, by omega, Lib.hid (by omega), HPN, IZ, JT, LZ⟩
                    case measure => simp [intOf]; omega
                  · have JT := Lib.hid (items_tail JZ.out HMN.out)
                    have h1m : (1 : Int) ≤ (m : Int) := by have := HMN.out; omega
                    have hm1 : m - 1 = n := by have := HMN.out; omega
                    have hc1z : ¬ (c8 : Int) = 1 := by omega
                    clear JZ
                    go_wp2_with fail
                    go_roundw
                    case rel => exact ⟨i + 1, n, popH H1, Q1.drop 1, A5, _, c5, _, rfl, rfl, by go_num, by omega, Lib.hid (by have := HMB.out; omega), HPN, IZ, JT, LZ⟩
                    case measure => simp [intOf]; omega
              · have hlpz : ¬ (i : Int) < (lp.length : Int) := by omega
                go_wp2_with fail
                go_roundw
                case rel => exact ⟨i + 1, m, H1, Q1, A7, A8, c7, c8, rfl, rfl, by go_num, by omega, HMB, HP1, I10, I11, LW9⟩
                case measure => simp [intOf]; omega
        · have hliz : ¬ (i : Int) < (ll.length : Int) := by omega
          have KS := Lib.hid (sorted_any _ H0 wr I5.out HP.out.2.2.2.1 (by have := HP.out.2.2.2.2; have := HNI.out; have := HBB.out; omega))
          rw [play_sort HP.out] at KS
          have HB8 : Hid (n ≤ 80) := Lib.hid (by have := HNI.out; have := HBB.out; omega)
          clear hi
          go_wp2_with fail
          refine KS.out.mono ?_; rintro e w5 ⟨u5, rfl, hi5, hb5⟩
          have KN := Lib.hid (same_any u5 _ Q0 w5 hi5 (I6.out.below hb5) (by have := play_len HP.out; have := HB8.out; omega))
          have L5 := Lib.hid hb5
          clear KS hi5 hb5
          go_wp2_with fail
          refine KN.out.mono ?_; rintro e w6 ⟨rfl, hb6⟩
          have L6 : Hid (Below wr.heap.size wr w6) := Lib.hid (low_trans L5.out hb6)
          have I7 := Lib.hid (I5.out.below L6.out)
          have J7 := Lib.hid (I6.out.below L6.out)
          have L7 : Hid (Below w.heap.size w w6) := Lib.hid (low_trans3 HL.out L6.out)
          clear KN hb6 L5 L6 I5 I6 HL
          go_wp2_with fail
          go_loopw [7, 8] (fun s7 s8 wr => ∃ (n : Nat) (H0 Q0 : List It) (A5 A6 : Option Addr) (c5 c6 : Nat), s7 = .slice A5 n c5 ∧ s8 = .slice A6 n c6 ∧ Hid (n ≤ 80) ∧ Hid (Play H0 Q0 n) ∧ Hid (Items wr (.slice A5 n c5) H0) ∧ Hid (Items wr (.slice A6 n c6) Q0) ∧ Hid (Below w.heap.size w wr)) (fun s7 _ _ => lenOf s7)
          case atStart => exact ⟨n, H0, Q0, A5, A6, c5, c6, rfl, rfl, HB8, HP, I7, J7, L7⟩
          case round =>
            obtain ⟨m, H1, Q1, A7, A8, c7, c8, rfl, rfl, HBM, HP1, I10, I11, LW9⟩ := hrel
            clear I7 J7 L7 HP HB8 HNI
            rcases Nat.eq_zero_or_pos m with hm0 | hm0
            · subst hm0
              obtain rfl : H1 = [] := List.eq_nil_of_length_eq_zero HP1.out.2.2.2.2
              obtain ⟨wz, hwz⟩ : ∃ W, W = wr := ⟨_, rfl⟩
              subst hwz
              have KP := Lib.hid (pop_none _ wz I10.out)
              (try rw [show ((0 : Nat) : Int) = 0 from rfl])
              go_wp2_with fail
              refine KP.out.mono ?_; rintro e w7 ⟨rfl, hb7⟩
              have L8 : Hid (Below w.heap.size w (w7.alloc (.cells #[.int .i64 0, .bool false, .int .u64 0, .int .u64 0, .int .i64 0] 32))) := Lib.hid (Lows.alloc (low_trans3 LW9.out hb7) _)
              clear KP hb7 LW9 I10 I11
              go_wp2_with fail
              refine (AW.out _).mono ?_; rintro e w8 ⟨rfl, hb8⟩
              have L9 := Lib.hid (low_trans3 L8.out hb8)
              clear hb8 L8
              go_wp2_with fail
              go_ret
              exact ⟨rfl, L9.out⟩
            · obtain ⟨n, hn⟩ : ∃ n, n = m - 1 := ⟨_, rfl⟩
              have HMN : Hid (m = n + 1) := Lib.hid (by omega)
              have hmz : (0 : Int) < (m : Int) := by omega
              obtain ⟨w9, hw9⟩ : ∃ W, W = wr := ⟨_, rfl⟩
              subst hw9
              have HBN : Hid (n ≤ 80) := Lib.hid (by have := HBM.out; omega)
              clear hn hm0
              have KP := Lib.hid (pop_apart _ _ w9 I10.out (by have := HP1.out.2.2.2.2; have := HMN.out; omega) HP1.out.2.2.2.1 (by have := HP1.out.2.2.2.2; have := HBM.out; have := HMN.out; omega))
              obtain ⟨y, hy⟩ : ∃ y, y = fn H1 0 := ⟨_, rfl⟩
              rw [← hy] at KP
              have HPP := Lib.hid (play_pop HP1.out HMN.out)
              have hyq : y = fn Q1 0 := hy.trans HPP.out.1
              have hlp : (popH H1).length = n := HPP.out.2.2.2.2.2
              rw [hlp] at KP
              obtain ⟨bq, oq, hA2, hbq, hmq, hmc, hcq⟩ := items_ask I11.out (by have := play_len HP1.out; have := HMN.out; omega)
              subst hA2
              have HQC : Hid (∀ X, Below w9.heap.size w9 X → ∀ j u, (encI y)[j]? = some u → X.cell? ⟨bq, oq + j, none⟩ = some u) := Lib.hid fun X hX j u hu => by
                have h0 := hcq 0 (by have := play_len HP1.out; have := HMN.out; omega) j u (by rw [← hyq]; exact hu)
                rw [Nat.zero_mul, Nat.add_zero] at h0
                exact (hX.cell (p := ⟨bq, oq + j, none⟩) hbq).trans h0
              clear hy hyq hcq hlp hmq
              go_wp2_with fail
              refine KP.out.mono ?_; rintro e w5 ⟨A5, c5, rfl, hi5, hb5⟩
              have H5 := Lib.hid hi5
              have L5 := Lib.hid hb5
              clear KP hi5 hb5
              obtain ⟨W6, hW6⟩ : ∃ W, W = w5.alloc (.cells #[.int .i64 y.k, .bool y.e.a.v6, .int .u64 y.e.a.hi, .int .u64 y.e.a.lo, .int .i64 y.e.n] 32) := ⟨_, rfl⟩
              have L6 : Hid (Below w9.heap.size w9 W6) := Lib.hid (by rw [hW6]; exact Lows.alloc L5.out _)
              have B6 : Hid (Blk W6 w5.heap.size 32 [.int .i64 y.k, .bool y.e.a.v6, .int .u64 y.e.a.hi, .int .u64 y.e.a.lo, .int .i64 y.e.n]) := Lib.hid (by rw [hW6]; exact Blk.new w5 _ _)
              have I6 : Hid (Items W6 (.slice A5 n c5) (popH H1)) := Lib.hid (by rw [hW6]; exact H5.out.below (Lows.alloc (Lows.self _) _))
              have KR : Hid (∀ X, Lows W6 X → Calls Try.prog 6 #[.slice A5 n c5] X fun e w' => e = .returned (.bool true) ∧ Lows W6 w') := Lib.hid fun X hX => by
                have k := right_any _ (popH H1) X (I6.out.below hX) (fn_ok HPP.out.2.2.2.2.1) (by have := HPP.out.2.2.2.2.2; have := HMN.out; have := HBM.out; omega)
                rw [(right_iff _).2 HPP.out.2.1] at k
                exact k.mono fun e w' ⟨he, hb⟩ => ⟨he, low_trans hX hb⟩
              have hne : Nonempty (Cls (Lows W6)) := ⟨⟨_, Lows.self _⟩⟩
              have NQ : ∀ W : World, (binOp .neq 27 (.agg #[.bool y.e.a.v6, .int .u64 y.e.a.hi, .int .u64 y.e.a.lo, .int .i64 y.e.n]) (.agg #[.bool y.e.a.v6, .int .u64 y.e.a.hi, .int .u64 y.e.a.lo, .int .i64 y.e.n])).run Try.prog W = .ok (.bool false) W := fun W => by
                have h := neqEnd y.e y.e W
                rw [same_selfE] at h
                exact h
              have NK : (y.k != y.k) = false := by simp
              have hm0z : (0 : Int) < (m : Int) := by have := HMN.out; omega
              have hwn : IntKind.i64.wrap ((m : Int) - 1) = (n : Int) := by have := HMN.out; have := HBM.out; rw [IntKind.wrap_i64]; omega
              have znn : ((n : Int) != (n : Int)) = false := by simp
              have f0 : ∀ nq : Cls (Lows W6), nq.w.cell? ⟨w5.heap.size, 0, none⟩ = some (.int .i64 y.k) := fun nq => Blk.in B6 nq.h rfl
              have f1 : ∀ nq : Cls (Lows W6), nq.w.cell? ⟨w5.heap.size, 1, none⟩ = some (.bool y.e.a.v6) := fun nq => Blk.in B6 nq.h rfl
              have f2 : ∀ nq : Cls (Lows W6), nq.w.cell? ⟨w5.heap.size, 2, none⟩ = some (.int .u64 y.e.a.hi) := fun nq => Blk.in B6 nq.h rfl
              have f3 : ∀ nq : Cls (Lows W6), nq.w.cell? ⟨w5.heap.size, 3, none⟩ = some (.int .u64 y.e.a.lo) := fun nq => Blk.in B6 nq.h rfl
              have f4 : ∀ nq : Cls (Lows W6), nq.w.cell? ⟨w5.heap.size, 4, none⟩ = some (.int .i64 y.e.n) := fun nq => Blk.in B6 nq.h rfl
              have g0 : ∀ nq : Cls (Lows W6), nq.w.cell? ⟨bq, oq, none⟩ = some (.int .i64 y.k) := fun nq => HQC.out _ (low_trans L6.out nq.h) 0 _ rfl
              have g1 : ∀ nq : Cls (Lows W6), nq.w.cell? ⟨bq, oq + 1, none⟩ = some (.bool y.e.a.v6) := fun nq => HQC.out _ (low_trans L6.out nq.h) 1 _ rfl
              have g2 : ∀ nq : Cls (Lows W6), nq.w.cell? ⟨bq, oq + 2, none⟩ = some (.int .u64 y.e.a.hi) := fun nq => HQC.out _ (low_trans L6.out nq.h) 2 _ rfl
              have g3 : ∀ nq : Cls (Lows W6), nq.w.cell? ⟨bq, oq + 3, none⟩ = some (.int .u64 y.e.a.lo) := fun nq => HQC.out _ (low_trans L6.out nq.h) 3 _ rfl
              have g4 : ∀ nq : Cls (Lows W6), nq.w.cell? ⟨bq, oq + 4, none⟩ = some (.int .i64 y.e.n) := fun nq => HQC.out _ (low_trans L6.out nq.h) 4 _ rfl
              clear H5
              go_wp2_with fail
              rw [← hW6]
              clear hW6
              refine Cls.region (Lows W6) (by kernel_rfl) (by kernel_rfl) (low_drewN (Below.refl _ _) 1) ?_
              (try dsimp only [List.append])
              repeat (go_big_quiet_step (first | fail | (with_reducible exact Cls.call (KR.out _ (Cls.h _)))))
              refine wpQuiet_nil ?_
              intro n9
              have hk9 := n9.h
              generalize n9.w = wz at hk9 ⊢
              have HPN := Lib.hid HPP.out.2
              have IZ := Lib.hid (I6.out.below hk9)
              have JZ := Lib.hid (I11.out.below (low_trans L6.out hk9))
              have LZ : Hid (Below w.heap.size w wz) := Lib.hid (low_trans3 LW9.out (low_trans L6.out hk9))
              clear hne n9 hk9 f0 f1 f2 f3 f4 g0 g1 g2 g3 g4 NQ NK KR B6 I6 L5 L6 HQC HPP znn hwn hm0z
              by_cases hc1 : c8 = 1
              · subst hc1
                obtain ⟨rfl, hjt⟩ := items_tail1 JZ.out HMN.out
                have JT := Lib.hid hjt
                obtain rfl := HMN.out
                clear hjt hmc HMN JZ
                go_wp2_with fail
                go_roundw
                case rel => exact ⟨0, popH H1, Q1.drop 1, A5, _, c5, 0, rfl, rfl, Lib.hid (by omega), HPN, IZ, JT, LZ⟩
                case measure => simp only [lenOf]; omega
              · have JT := Lib.hid (items_tail JZ.out HMN.out)
                have h1m : (1 : Int) ≤ (m : Int) := by have := HMN.out; omega
                have hm1 : m - 1 = n := by have := HMN.out; omega
                have hc1z : ¬ (c8 : Int) = 1 := by omega
                clear JZ
                go_wp2_with fail
                go_roundw
                case rel => exact ⟨n, popH H1, Q1.drop 1, A5, _, c5, _, rfl, rfl, HBN, HPN, IZ, JT, LZ⟩
                case measure => simp only [lenOf]; omega
end Go.Proofs.Ytakldkolkdpcoaa.Hp
namespace Go.Proofs.Ytakldkolkdpcoaa
set_option maxRecDepth 100000
open Go.ChangeShapes Go.WideShapes Go.ChangeAt Go.RowKit
open Dec Words V4 V6 Ad Ci En Hp Go.Deep
set_option linter.unusedVariables false
namespace heapPlays
theorem contract (H : Type) (enc : TypeId × Value → H) (W : World) (base : Nat) (args : Array Value) (ds gs : List (DataW H)) (before : List MemPlace)
    (hval0 : ∀ (j : Nat) t v, Try.f4.params[j]? = some t → args[j]? = some v → Value.okWide Try.prog W .any base t v)
    (hW : DataW.Whole enc Try.prog Try.f4.params.toList Rows.heapPlaysSpec.vars false W args.toList ds gs before) (hSh : W.ShapedOpen Try.prog) :
    Calls Try.prog 4 args W fun e W' => ∃ v, e = .returned v ∧ Rows.heapPlaysSpec.post enc Try.prog Try.f4 false true false false W args v W' := by
  have hval : ∀ (j : Nat) t v, Try.f4.params[j]? = some t → args[j]? = some v → Value.okWide Try.prog W .any base t v := hval0
  have hW' := hW
  obtain ⟨p, q, hA0, hV, _, _, _⟩ := hW
  have hA : DataW.TrodAll enc Try.prog W 0 (fun _ => true) true Try.f4.params.toList args.toList ds p := hA0
  rw [Try.params4] at hA hval
  obtain ⟨v0, vs0, d0, ds0, p0, q0, hargs, rfl, rfl, h0, r0⟩ := trodAll_cons hA
  obtain ⟨v1, vs1, d1, ds1, p1, q1, rfl, rfl, rfl, h1, r1⟩ := trodAll_cons r0
  obtain ⟨v2, vs2, d2, ds2, p2, q2, rfl, rfl, rfl, h2, r2⟩ := trodAll_cons r1
  obtain ⟨rfl, rfl, rfl⟩ := trodAll_nil r2
  obtain rfl : args = #[v0, v1, v2] := by cases args; simp_all
  obtain ⟨rfl, rfl⟩ := trodVars_none hV
  obtain ⟨l0, t0, n0, s0⟩ := open_keys (hval 0 22 v0 rfl rfl) h0
  obtain ⟨l1, t1, n1, s1⟩ := open_keys (hval 1 22 v1 rfl rfl) h1
  obtain ⟨l2, t2, n2, s2⟩ := open_bools (hval 2 46 v2 rfl rfl) h2
  clear hA0 hval0
  refine (heapPlays_walk W v0 l0 t0 s0 v1 l1 t1 s1 v2 l2 t2 s2).mono fun e W' ⟨he, hg⟩ => ?_
  subst he
  exact ⟨_, rfl, post_law laidOut (by kernel_rfl) (by kernel_rfl) Try.underlying4 rfl hW' rfl rfl rfl hg⟩
set_option maxRecDepth 100000 in
theorem lifted (os : Os) (started : os.Started) (H : Type) (enc : TypeId × Value → H) (F : Stop.Interp) :
    ReturnsInHanded {} Try.checked os 4 .any ((OpenSpec.ofChange Rows.heapPlaysSpec).preRow enc Try.prog Try.f4 Rows.heapPlaysRow.domain false Rows.heapPlaysRow.laid) (((OpenSpec.ofChange Rows.heapPlaysSpec).at F).post enc Try.prog Try.f4 false true false false) := by
  refine returnsInHanded_of_row (C := Try.checked) (s := OpenSpec.ofChange Rows.heapPlaysSpec) own started (by kernel_rfl) Try.func4
    (witness_laid (enc := enc) (C := Try.checked) (s := OpenSpec.ofChange Rows.heapPlaysSpec) (laid := Rows.heapPlaysRow.laid) #[.slice none 0 0, .slice none 0 0, .slice none 0 0] (World.shaped_of_ZipB (by kernel_rfl) (by kernel_rfl)) (by kernel_rfl)
      (OpenSpec.preRow_of_cond 8 (x := ([.nil, .nil, .nil], [], [])) (by kernel_rfl) (by kernel_rfl) (fun k hk => by cases hk) (by kernel_rfl)
        (by rw [MakeChecks.laidMetH_plain _ _ _ (by kernel_rfl)]; exact laidMet_laidAll _ (by kernel_rfl) (by kernel_rfl)))) ?_
  intro W base args ds gs before hval hW _ hcond _ _ hsh _
  exact contract H enc W base args ds gs before hval hW hsh
theorem over : Rows.heapPlaysRow.holds Try.pinned (OpenSpec.ofChange Rows.heapPlaysSpec) :=
  OpenClaim.holds_of_cond 4 Try.f4 rfl rfl rfl rfl rfl rfl rfl ⟨rfl, rfl, rfl, rfl, rfl⟩ rfl rfl rfl rfl rfl (by kernel_rfl) Try.func4 (by kernel_rfl)
    (of_decide_eq_true (by kernel_rfl)) (by unfold Func.isWrapper; first | (rw [if_pos (by decide +kernel)]; kernel_rfl) | (rw [if_neg (by decide +kernel)]; exact ⟨rfl, rfl⟩))
    (fun os started H enc _ F => by rw [OpenClaim.pre_eq_preRow]; exact lifted os started H enc F)
/-- ████ THE STATEMENT ████ -/
theorem proved : Rows.HeapPlaysSaid := over
end heapPlays
end Go.Proofs.Ytakldkolkdpcoaa
