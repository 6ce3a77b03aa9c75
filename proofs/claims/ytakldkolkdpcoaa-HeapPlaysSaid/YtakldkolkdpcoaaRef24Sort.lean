/- The document's answers of layer 24: Sorted, Right. -/
import Derived.Test.YtakldkolkdpcoaaRef24
namespace Go.Proofs.Ytakldkolkdpcoaa.Hp
set_option maxRecDepth 100000
open Go.ChangeShapes Go.WideShapes Go.ChangeAt Go.RowKit
open Dec Words V4 V6 Ad Ci En Go.Deep
set_option linter.unusedVariables false
theorem putrun_perm (l : List It) : (l.foldl putX []).Perm l := sortX_perm l
set_option maxHeartbeats 4000000 in
theorem rsorted_any (v : Value) (l : List It) (w : World) (h : Items w v l) (hok : ∀ i, i < l.length → (fn l i).ok) (hl : l.length ≤ 800000) :
    Calls Try.prog 14 #[v] w fun e w' => ∃ u, e = .returned u ∧ Items w' u (sortX l) ∧ Below w.heap.size w w' := by
  obtain ⟨A, c, rfl, hc, _, hcell⟩ := h
  have HC := Lib.hid hcell
  have HOK := Lib.hid hok
  clear hcell hok hc
  have H0 : Hid (Items (w.alloc (.cells #[] 33)) (.slice (some ⟨w.heap.size, 0, none⟩) 0 0) (([] : List It).foldl putX [])) := Lib.hid (ownR_items (ownR_lit w (Nat.le_refl _)))
  have L0 : Hid (Below w.heap.size w (w.alloc (.cells #[] 33))) := Lib.hid (Below.alloc (Below.refl _ _) (Nat.le_refl _) _)
  go_enter Try.func14, Try.ntmps14
  go_wp2_with fail
  go_loopw [3, 4] (fun vo vi wr => ∃ (i : Nat) (uo : Value), uo = vo ∧ vi = .int .i64 i ∧ i ≤ l.length ∧ Hid (Items wr uo ((l.take i).foldl putX [])) ∧ Hid (Below w.heap.size w wr)) (fun _ vi _ => l.length - (intOf vi).toNat)
  case atStart => exact ⟨0, _, rfl, rfl, Nat.zero_le _, H0, L0⟩
  case round =>
    obtain ⟨i, uo, rfl, rfl, hi, HO, HL⟩ := hrel
    clear H0 L0
    by_cases hli : i < l.length
    · have hliz : (i : Int) < (l.length : Int) := by omega
      obtain ⟨bb, o, rfl, hb, hcc⟩ := HC.out (by omega)
      have hni := hli
      obtain ⟨x, hx⟩ : ∃ x, x = fn l i := ⟨_, rfl⟩
      have c0 := item_at HL.out hb hcc hni (j := 0) (u := .int .i64 x.k) (by rw [← hx]; rfl)
      have c1 := item_at HL.out hb hcc hni (j := 1) (u := .bool x.e.a.v6) (by rw [← hx]; rfl)
      have c2 := item_at HL.out hb hcc hni (j := 2) (u := .int .u64 x.e.a.hi) (by rw [← hx]; rfl)
      have c3 := item_at HL.out hb hcc hni (j := 3) (u := .int .u64 x.e.a.lo) (by rw [← hx]; rfl)
      have c4 := item_at HL.out hb hcc hni (j := 4) (u := .int .i64 x.e.n) (by rw [← hx]; rfl)
      rw [Nat.add_zero] at c0
      have hxo : x.ok := by rw [hx]; exact HOK.out i hli
      have hp := putrun_perm (l.take i)
      have hlen : ((l.take i).foldl putX []).length ≤ 800000 := by rw [hp.length_eq, List.length_take]; omega
      have K1 := Lib.hid (rput_any uo ((l.take i).foldl putX []) x wr HO.out hxo (fun j hj => by
        rw [show fn ((l.take i).foldl putX []) j = ((l.take i).foldl putX [])[j] from getElem!_pos _ j hj]
        obtain ⟨k, hk, e⟩ := List.getElem_of_mem (hp.mem_iff.1 (List.getElem_mem hj))
        rw [← e, List.getElem_take, ← show fn l k = l[k]'(by rw [List.length_take] at hk; omega) from getElem!_pos l k _]
        exact HOK.out k (by rw [List.length_take] at hk; omega)) hlen)
      have HE : Hid (putX ((l.take i).foldl putX []) x = (l.take (i + 1)).foldl putX []) := Lib.hid (by
        rw [List.take_succ_eq_append_getElem hli, List.foldl_append, hx, show fn l i = l[i] from getElem!_pos l i hli]
        rfl)
      clear hx hxo hp hlen hcc hb HO
      go_wp2_with fail
      refine K1.out.mono ?_; rintro e9 w1 ⟨u1, rfl, hO, hb1⟩
      have HO1 : Hid (Items w1 u1 ((l.take (i + 1)).foldl putX [])) := Lib.hid (by rw [← HE.out]; exact hO)
      have HL1 := Lib.hid (low_trans3 HL.out hb1)
      clear hO hb1 K1 HE
      go_wp2_with fail
      go_roundw
      case rel => exact ⟨i + 1, u1, rfl, by go_num, by omega, HO1, HL1⟩
      case measure => simp [intOf]; omega
    · have hliz : ¬ (i : Int) < (l.length : Int) := by omega
      have HE : Hid ((l.take i).foldl putX [] = sortX l) := Lib.hid (by rw [List.take_of_length_le (by omega)]; rfl)
      go_wp2_with fail
      go_ret
      exact ⟨_, rfl, by rw [← HE.out]; exact HO.out, HL.out⟩
set_option maxHeartbeats 8000000 in
theorem rright_any (v : Value) (l : List It) (w : World) (h : Items w v l) (hok : ∀ i, i < l.length → (fn l i).ok) (hl : l.length ≤ 800000) :
    Calls Try.prog 8 #[v] w fun e w' => e = .returned (.bool (rightB l)) ∧ Below w.heap.size w w' := by
  obtain ⟨A, c, rfl, hc, _, hcell⟩ := h
  have HC := Lib.hid hcell
  have HOK := Lib.hid hok
  clear hcell hok hc
  go_enter Try.func8, Try.ntmps8
  go_wp2_with fail
  go_loopw [3] (fun vi wr => ∃ (i : Nat), vi = .int .i64 i ∧ i ≤ l.length ∧ Hid (∀ k, 0 < k → k < l.length → (k - 1) / 2 < i → ltH (fn l k) (fn l ((k - 1) / 2)) = false) ∧ Hid (Below w.heap.size w wr)) (fun vi _ => l.length - (intOf vi).toNat)
  case atStart => exact ⟨0, rfl, Nat.zero_le _, Lib.hid (fun k _ _ h => by omega), Lib.hid (Below.refl _ _)⟩
  case round =>
    obtain ⟨i, rfl, hi, HS, HL⟩ := hrel
    by_cases hli : i < l.length
    · have hliz : (i : Int) < (l.length : Int) := by omega
      obtain ⟨m2, hm2⟩ : ∃ m : Nat, m = 2 * i := ⟨_, rfl⟩
      obtain ⟨a, ha⟩ : ∃ m : Nat, m = 2 * i + 1 := ⟨_, rfl⟩
      obtain ⟨b, hb2⟩ : ∃ m : Nat, m = 2 * i + 2 := ⟨_, rfl⟩
      have hw0 : IntKind.i64.wrap (2 * (i : Int)) = (m2 : Int) := by rw [IntKind.wrap_i64]; omega
      have hw1 : IntKind.i64.wrap ((m2 : Int) + 1) = (a : Int) := by rw [IntKind.wrap_i64]; omega
      have hw2 : IntKind.i64.wrap ((m2 : Int) + 2) = (b : Int) := by rw [IntKind.wrap_i64]; omega
      have HA := Lib.hid ha
      have HB := Lib.hid hb2
      have HS0 : Hid (∀ k, 0 < k → k < l.length → k < a → ltH (fn l k) (fn l ((k - 1) / 2)) = false) := Lib.hid fun k h1 h2 h3 => HS.out k h1 h2 (by omega)
      obtain ⟨W0, hW0⟩ : ∃ W, W = wr := ⟨_, rfl⟩
      subst hW0
      clear hm2 ha hb2 HS
      go_wp2_with fail
      go_loopw [4] (fun vk wr => ∃ (k : Nat), vk = .int .i64 k ∧ Hid (2 * i + 1 ≤ k ∧ k ≤ 2 * i + 3) ∧ Hid (∀ q, 0 < q → q < l.length → q < k → ltH (fn l q) (fn l ((q - 1) / 2)) = false) ∧ Hid (Below w.heap.size w wr)) (fun vk _ => 2 * i + 3 - (intOf vk).toNat)
      case atStart => exact ⟨a, rfl, Lib.hid (by have := HA.out; omega), HS0, HL⟩
      case round =>
        obtain ⟨k, rfl, HK, HS, HL⟩ := hrel
        have hbI := HB.out
        have hkI := HK.out
        by_cases hkb : k ≤ b
        · have hkbz : (k : Int) ≤ (b : Int) := by omega
          by_cases hkn : k < l.length
          · have hpk : (k - 1) / 2 = i := by omega
            have HPK := Lib.hid hpk
            have hk0 := Lib.hid (show 0 < k ∧ k + 1 ≤ 2 * i + 3 by omega)
            obtain ⟨bb, o, rfl, hb, hcc⟩ := HC.out (by omega)
            clear hpk hbI hkI
            have hnk : k < l.length := by omega
            have hzk : (k : Int) < (l.length : Int) := by omega
            have hbk : (k : Int) ≤ 9223372036854775807 := by omega
            have hni : i < l.length := by omega
            have hzi : (i : Int) < (l.length : Int) := by omega
            have hbi : (i : Int) ≤ 9223372036854775807 := by omega
            cases hlo : ltH (fn l k) (fn l i) with
            | true =>
              have E : Hid (rightB l = false) := Lib.hid (by
                cases h : rightB l with
                | false => rfl
                | true =>
                  have := (right_iff l).1 h k hk0.out.1 hkn (Nat.zero_le _)
                  rw [HPK.out, hlo] at this
                  exact absurd this (by simp))
              clear HS
              obtain ⟨x, hx⟩ : ∃ x, x = fn l k := ⟨_, rfl⟩
              obtain ⟨y, hy⟩ : ∃ x, x = fn l i := ⟨_, rfl⟩
              have C := lows_call (W0 := wr) (Lib.hid (fun X => rahead_any x y X (by rw [hx]; exact HOK.out _ hnk) (by rw [hy]; exact HOK.out _ hni)))
              have hne : Nonempty (Cls (Lows wr)) := ⟨⟨_, Lows.self _⟩⟩
              have x0 : ∀ nq : Cls (Lows wr), nq.w.cell? ⟨bb, o + k * 5, none⟩ = some (.int .i64 x.k) := fun nq => by rw [hx]; exact item_at (low_trans3 HL.out nq.h) hb hcc hnk (j := 0) rfl
              have x1 : ∀ nq : Cls (Lows wr), nq.w.cell? ⟨bb, o + k * 5 + 1, none⟩ = some (.bool x.e.a.v6) := fun nq => by rw [hx]; exact item_at (low_trans3 HL.out nq.h) hb hcc hnk (j := 1) rfl
              have x2 : ∀ nq : Cls (Lows wr), nq.w.cell? ⟨bb, o + k * 5 + 2, none⟩ = some (.int .u64 x.e.a.hi) := fun nq => by rw [hx]; exact item_at (low_trans3 HL.out nq.h) hb hcc hnk (j := 2) rfl
              have x3 : ∀ nq : Cls (Lows wr), nq.w.cell? ⟨bb, o + k * 5 + 3, none⟩ = some (.int .u64 x.e.a.lo) := fun nq => by rw [hx]; exact item_at (low_trans3 HL.out nq.h) hb hcc hnk (j := 3) rfl
              have x4 : ∀ nq : Cls (Lows wr), nq.w.cell? ⟨bb, o + k * 5 + 4, none⟩ = some (.int .i64 x.e.n) := fun nq => by rw [hx]; exact item_at (low_trans3 HL.out nq.h) hb hcc hnk (j := 4) rfl
              have y0 : ∀ nq : Cls (Lows wr), nq.w.cell? ⟨bb, o + i * 5, none⟩ = some (.int .i64 y.k) := fun nq => by rw [hy]; exact item_at (low_trans3 HL.out nq.h) hb hcc hni (j := 0) rfl
              have y1 : ∀ nq : Cls (Lows wr), nq.w.cell? ⟨bb, o + i * 5 + 1, none⟩ = some (.bool y.e.a.v6) := fun nq => by rw [hy]; exact item_at (low_trans3 HL.out nq.h) hb hcc hni (j := 1) rfl
              have y2 : ∀ nq : Cls (Lows wr), nq.w.cell? ⟨bb, o + i * 5 + 2, none⟩ = some (.int .u64 y.e.a.hi) := fun nq => by rw [hy]; exact item_at (low_trans3 HL.out nq.h) hb hcc hni (j := 2) rfl
              have y3 : ∀ nq : Cls (Lows wr), nq.w.cell? ⟨bb, o + i * 5 + 3, none⟩ = some (.int .u64 y.e.a.lo) := fun nq => by rw [hy]; exact item_at (low_trans3 HL.out nq.h) hb hcc hni (j := 3) rfl
              have y4 : ∀ nq : Cls (Lows wr), nq.w.cell? ⟨bb, o + i * 5 + 4, none⟩ = some (.int .i64 y.e.n) := fun nq => by rw [hy]; exact item_at (low_trans3 HL.out nq.h) hb hcc hni (j := 4) rfl
              have Hx := Lib.hid hx
              have Hy := Lib.hid hy
              rw [← hx, ← hy] at hlo
              rw [hlo] at C
              clear hlo hx hy hcc hb
              go_wp2_with fail
              refine Cls.region (Lows wr) (by kernel_rfl) (by kernel_rfl) (low_drewN (Below.refl _ _) 1) ?_
              (try dsimp only [List.append])
              repeat (go_big_quiet_step (first | fail | (with_reducible exact Cls.call (C.out _ (Cls.h _)))))
              refine wpQuiet_nil ?_
              intro n9
              have hk9 := n9.h
              generalize n9.w = w9 at hk9 ⊢
              clear hne n9 C x0 x1 x2 x3 x4 y0 y1 y2 y3 y4 
              go_wp2_with fail
              go_ret
              exact ⟨by rw [E.out]; rfl, low_trans3 HL.out hk9⟩
            | false =>
              have HS2 : Hid (∀ q, 0 < q → q < l.length → q < k + 1 → ltH (fn l q) (fn l ((q - 1) / 2)) = false) := Lib.hid (fun q h1 h2 h3 => by
                by_cases h : q < k
                · exact HS.out q h1 h2 h
                · obtain rfl : q = k := by omega
                  rw [HPK.out]; exact hlo)
              have HK2 : Hid (2 * i + 1 ≤ k + 1 ∧ k + 1 ≤ 2 * i + 3) := Lib.hid ⟨by have := HK.out; omega, hk0.out.2⟩
              clear HS
              obtain ⟨x, hx⟩ : ∃ x, x = fn l k := ⟨_, rfl⟩
              obtain ⟨y, hy⟩ : ∃ x, x = fn l i := ⟨_, rfl⟩
              have C := lows_call (W0 := wr) (Lib.hid (fun X => rahead_any x y X (by rw [hx]; exact HOK.out _ hnk) (by rw [hy]; exact HOK.out _ hni)))
              have hne : Nonempty (Cls (Lows wr)) := ⟨⟨_, Lows.self _⟩⟩
              have x0 : ∀ nq : Cls (Lows wr), nq.w.cell? ⟨bb, o + k * 5, none⟩ = some (.int .i64 x.k) := fun nq => by rw [hx]; exact item_at (low_trans3 HL.out nq.h) hb hcc hnk (j := 0) rfl
              have x1 : ∀ nq : Cls (Lows wr), nq.w.cell? ⟨bb, o + k * 5 + 1, none⟩ = some (.bool x.e.a.v6) := fun nq => by rw [hx]; exact item_at (low_trans3 HL.out nq.h) hb hcc hnk (j := 1) rfl
              have x2 : ∀ nq : Cls (Lows wr), nq.w.cell? ⟨bb, o + k * 5 + 2, none⟩ = some (.int .u64 x.e.a.hi) := fun nq => by rw [hx]; exact item_at (low_trans3 HL.out nq.h) hb hcc hnk (j := 2) rfl
              have x3 : ∀ nq : Cls (Lows wr), nq.w.cell? ⟨bb, o + k * 5 + 3, none⟩ = some (.int .u64 x.e.a.lo) := fun nq => by rw [hx]; exact item_at (low_trans3 HL.out nq.h) hb hcc hnk (j := 3) rfl
              have x4 : ∀ nq : Cls (Lows wr), nq.w.cell? ⟨bb, o + k * 5 + 4, none⟩ = some (.int .i64 x.e.n) := fun nq => by rw [hx]; exact item_at (low_trans3 HL.out nq.h) hb hcc hnk (j := 4) rfl
              have y0 : ∀ nq : Cls (Lows wr), nq.w.cell? ⟨bb, o + i * 5, none⟩ = some (.int .i64 y.k) := fun nq => by rw [hy]; exact item_at (low_trans3 HL.out nq.h) hb hcc hni (j := 0) rfl
              have y1 : ∀ nq : Cls (Lows wr), nq.w.cell? ⟨bb, o + i * 5 + 1, none⟩ = some (.bool y.e.a.v6) := fun nq => by rw [hy]; exact item_at (low_trans3 HL.out nq.h) hb hcc hni (j := 1) rfl
              have y2 : ∀ nq : Cls (Lows wr), nq.w.cell? ⟨bb, o + i * 5 + 2, none⟩ = some (.int .u64 y.e.a.hi) := fun nq => by rw [hy]; exact item_at (low_trans3 HL.out nq.h) hb hcc hni (j := 2) rfl
              have y3 : ∀ nq : Cls (Lows wr), nq.w.cell? ⟨bb, o + i * 5 + 3, none⟩ = some (.int .u64 y.e.a.lo) := fun nq => by rw [hy]; exact item_at (low_trans3 HL.out nq.h) hb hcc hni (j := 3) rfl
              have y4 : ∀ nq : Cls (Lows wr), nq.w.cell? ⟨bb, o + i * 5 + 4, none⟩ = some (.int .i64 y.e.n) := fun nq => by rw [hy]; exact item_at (low_trans3 HL.out nq.h) hb hcc hni (j := 4) rfl
              have Hx := Lib.hid hx
              have Hy := Lib.hid hy
              rw [← hx, ← hy] at hlo
              rw [hlo] at C
              clear hlo hx hy hcc hb
              go_wp2_with fail
              refine Cls.region (Lows wr) (by kernel_rfl) (by kernel_rfl) (low_drewN (Below.refl _ _) 1) ?_
              (try dsimp only [List.append])
              repeat (go_big_quiet_step (first | fail | (with_reducible exact Cls.call (C.out _ (Cls.h _)))))
              refine wpQuiet_nil ?_
              intro n9
              have hk9 := n9.h
              generalize n9.w = w9 at hk9 ⊢
              clear hne n9 C x0 x1 x2 x3 x4 y0 y1 y2 y3 y4 
              go_wp2_with fail
              go_roundw
              case rel => exact ⟨k + 1, by go_num, HK2, HS2, Lib.hid (low_trans3 HL.out hk9)⟩
              case measure => have := HK2.out; simp [intOf]; omega
          · have hknz : ¬ (k : Int) < (l.length : Int) := by omega
            have HS2 : Hid (∀ q, 0 < q → q < l.length → (q - 1) / 2 < i + 1 → ltH (fn l q) (fn l ((q - 1) / 2)) = false) := Lib.hid (fun q h1 h2 h3 => HS.out q h1 h2 (by omega))
            clear hbI hkI HS
            go_wp2_with fail
            go_roundw
            case rel => exact ⟨i + 1, by go_num, by omega, HS2, HL⟩
            case measure => simp [intOf]; omega
        · have hkbz : ¬ (k : Int) ≤ (b : Int) := by omega
          have HS2 : Hid (∀ q, 0 < q → q < l.length → (q - 1) / 2 < i + 1 → ltH (fn l q) (fn l ((q - 1) / 2)) = false) := Lib.hid (fun q h1 h2 h3 => HS.out q h1 h2 (by omega))
          clear hbI hkI HS
          go_wp2_with fail
          go_roundw
          case rel => exact ⟨i + 1, by go_num, by omega, HS2, HL⟩
          case measure => simp [intOf]; omega
    · have hliz : ¬ (i : Int) < (l.length : Int) := by omega
      have E : Hid (rightB l = true) := Lib.hid ((right_iff l).2 (fun k h1 h2 _ => HS.out k h1 h2 (by omega)))
      go_wp2_with fail
      go_ret
      exact ⟨by rw [E.out]; rfl, HL.out⟩
end Go.Proofs.Ytakldkolkdpcoaa.Hp
