/- Of the statement of layer 28 (dial): views that came in; the example. -/
import Derived.Test.YtgnjbbohphoojaaDialPick
import Derived.Test.YtgnjbbohphoojaaRecsDoor
import Derived.Deep.RegionHeld3
namespace Go.Proofs.Ytgnjbbohphoojaa
set_option maxRecDepth 100000
open Go.ChangeShapes Go.WideShapes Go.ChangeAt Go.RowKit
open Dec Words V4 V6 Ad Ci En Gr Pe Et Ra Bo Sp Hp Di Go.Deep
set_option linter.unusedVariables false
/-- A list of records in one cell. -/
theorem open_recs_at {H : Type} {enc : TypeId × Value → H} {P : Program} {α : Type} [Inhabited α] {k : Nat} {encR : α → List Value} {good : α → Prop} {W : World} {t e : TypeId} {c : Value} {fuel : Nat} {y : DataW H × List MemPlace}
    (ht : P.underlying t = some (.slice e)) (hc : P.cellsOf e = k) (h0 : 0 < k)
    (hel : ∀ (n : Nat) (cs : List Value) (y : DataW H × List MemPlace), DataW.trod enc P W 0 (fun _ => true) true n e cs = some y → cs.length = k → ∃ x : α, cs = encR x ∧ good x)
    (hf : DataW.trod enc P W 0 (fun _ => true) true fuel t [c] = some y) : ∃ (A : Option Addr) (cp : Nat) (xs : List α), c = .slice A xs.length cp ∧ Recs k encR W (.slice A xs.length cp) xs ∧ ∀ x ∈ xs, good x := by
  rcases open_slice ht hf with ⟨hcs, _⟩ | ⟨a, len, cap, m, n, D, Pl, hcs, _, hl, hm, hmm, _, hx⟩
  · simp only [List.cons.injEq, and_true] at hcs
    exact ⟨none, 0, [], hcs, Recs.nil _ _ _, fun _ h => absurd h List.not_mem_nil⟩
  · simp only [List.cons.injEq, and_true] at hcs
    subst hcs
    simp only [if_true] at hmm
    subst hmm
    rw [hc] at hx
    obtain ⟨F, hF⟩ := choose_lt (α := α) (n := len) (p := fun i x => w_at W a k (encR x) i ∧ good x) (fun i hi => by
      obtain ⟨cs', h1, h2⟩ := hx i (by omega)
      obtain ⟨_, hlen, hcell⟩ := World.cells?_some h1
      obtain ⟨x, rfl, hg⟩ := hel _ _ _ h2 hlen
      exact ⟨x, fun j hj => by
        have := hcell j (by rw [← hlen]; exact hj)
        rw [this], hg⟩)
    have hlen : ((List.range len).map F).length = len := by rw [List.length_map, List.length_range]
    refine ⟨some a, m, (List.range len).map F, by rw [hlen], ⟨some a, m, rfl, by rw [hlen]; exact hl, (fun h => by simp at h), fun hp => ?_⟩, fun x hx => ?_⟩
    · rw [hlen] at hp
      obtain ⟨b, off, spot⟩ := a
      obtain ⟨cs', h1, h2⟩ := hx 0 (by omega)
      obtain ⟨_, hl2, hcell⟩ := World.cells?_some h1
      have hsome : ∃ u, cs'[0]? = some u := ⟨_, List.getElem?_eq_getElem (by omega)⟩
      obtain ⟨u, hu⟩ := hsome
      have hc0 := hcell 0 h0
      rw [hu] at hc0
      have hspot : spot = none := by simpa [Addr.add] using World.cell?_spot hc0
      subst hspot
      refine ⟨b, off, rfl, by simpa [Addr.add] using World.block_lt_of_cell? _ _ hc0, fun i hi j u hu => ?_⟩
      have hi2 : i < len := by rw [hlen] at hi; exact hi
      rw [List.getElem_map, List.getElem_range] at hu
      have := (hF i hi2).1 j (List.getElem?_eq_some_iff.1 hu).1
      rw [hu, add_plain, add_plain] at this
      exact this
    · obtain ⟨i, hi, rfl⟩ := List.mem_map.1 hx
      exact (hF i (List.mem_range.1 hi)).2
/-- A view that came in. -/
theorem open_view {H : Type} {enc : TypeId × Value → H} {W : World} {v : Value} {d : DataW H} {ps : List MemPlace} {r : Reach} {b0 : Nat}
    (hval : Value.okWide Try.prog W r b0 26 v) (h : DataW.Trod enc Try.prog W 0 (fun _ => true) true 26 v d ps) :
    ∃ (A1 : Option Addr) (c1 : Nat) (A2 : Option Addr) (c2 : Nat) (A3 : Option Addr) (c3 : Nat) (b : List Ey) (l : List Pr) (s : List Ba.Ban), v = .agg #[.slice A1 b.length c1, .slice A2 l.length c2, .slice A3 s.length c3] ∧
      (Books W (.slice A1 b.length c1) b ∧ Peers W (.slice A2 l.length c2) l ∧ Bans W (.slice A3 s.length c3) s) ∧ (∀ y ∈ b, y.ok) ∧ (∀ p ∈ l, p.ok) ∧ ∀ x ∈ s, x.ok := by
  obtain ⟨cs, rfl, hsz⟩ := okWide_struct Try.underlying26 hval
  have hC : Try.prog.cellsOf 26 = 3 := by kernel_rfl
  obtain ⟨fuel, hf⟩ := h
  obtain ⟨l⟩ := cs
  have hl : l.length = 3 := by simpa [hC] using hsz
  match l, hl with
  | [c0, c1, c2], _ =>
  obtain ⟨xs, m, _, _, _, hx, he⟩ := DataW.trod_struct Try.underlying26 hf
  have hx3 : xs.length = 3 := hx
  have k1 : Try.prog.cellsOf 22 = 1 := by kernel_rfl
  have k2 : Try.prog.cellsOf 23 = 1 := by kernel_rfl
  have k3 : Try.prog.cellsOf 24 = 1 := by kernel_rfl
  obtain ⟨y0, e0⟩ : ∃ y, xs[0]? = some y := ⟨_, List.getElem?_eq_getElem (by omega)⟩
  obtain ⟨y1, e1⟩ : ∃ y, xs[1]? = some y := ⟨_, List.getElem?_eq_getElem (by omega)⟩
  obtain ⟨y2, e2⟩ : ∃ y, xs[2]? = some y := ⟨_, List.getElem?_eq_getElem (by omega)⟩
  have h0 : DataW.trod enc Try.prog W 0 (fun _ => true) true m 22 (([c0, c1, c2].drop 0).take (Try.prog.cellsOf 22)) = xs[0]? := he 0 _ rfl
  rw [k1, e0] at h0
  have g0 : DataW.trod enc Try.prog W 0 (fun _ => true) true m 22 [c0] = some y0 := h0
  have h1 : DataW.trod enc Try.prog W 0 (fun _ => true) true m 23 (([c0, c1, c2].drop 1).take (Try.prog.cellsOf 23)) = xs[1]? := he 1 _ rfl
  rw [k2, e1] at h1
  have g1 : DataW.trod enc Try.prog W 0 (fun _ => true) true m 23 [c1] = some y1 := h1
  have h2 : DataW.trod enc Try.prog W 0 (fun _ => true) true m 24 (([c0, c1, c2].drop 2).take (Try.prog.cellsOf 24)) = xs[2]? := he 2 _ rfl
  rw [k3, e2] at h2
  have g2 : DataW.trod enc Try.prog W 0 (fun _ => true) true m 24 [c2] = some y2 := h2
  obtain ⟨A1, p1, b, rfl, hb, ob⟩ := open_recs_at (encR := encY) (good := Ey.ok) Try.underlying22 (by kernel_rfl) (by decide) (fun _ _ _ hf hl => entry_cells hf hl) g0
  obtain ⟨A2, p2, l, rfl, hp, op⟩ := open_recs_at (encR := encP) (good := Pr.ok) Try.underlying23 (by kernel_rfl) (by decide) (fun _ _ _ hf hl => peer_cells hf hl) g1
  obtain ⟨A3, p3, s, rfl, hs, os⟩ := open_recs_at (encR := encB) (good := Ba.Ban.ok) Try.underlying24 (by kernel_rfl) (by decide) (fun _ _ _ hf hl => ban_cells hf hl) g2
  exact ⟨A1, p1, A2, p2, A3, p3, b, l, s, rfl, ⟨hb, hp, hs⟩, ob, op, os⟩
theorem at1_any (t : Int) (w : World) : Calls Try.prog 12 #[.int .u64 1, .int .i64 t] w fun e w' => e = .returned (.agg #[.bool false, .int .u64 0, .int .u64 65536, .int .i64 80, .int .i64 1, .int .i64 0, .int .i64 t]) ∧ Below w.heap.size w w' := by
  have L0 : Hid (Lows w (w.alloc (.cells #[.bool false, .int .u64 0, .int .u64 0, .int .i64 0, .int .i64 0, .int .i64 0, .int .i64 0] 37))) := Lib.hid (Lows.alloc (Lows.self w) _)
  go_enter Try.func12, Try.ntmps12
  go_wp2_with fail
  exact bodyPost_ret (v := .agg #[.bool false, .int .u64 0, .int .u64 65536, .int .i64 80, .int .i64 1, .int .i64 0, .int .i64 t]) (by simp [results, Try.results12, go_sem]) rfl ⟨rfl, by first | exact L0.out | exact Lows.alloc (Lows.self w) _⟩
theorem at2_any (t : Int) (w : World) : Calls Try.prog 12 #[.int .u64 2, .int .i64 t] w fun e w' => e = .returned (.agg #[.bool false, .int .u64 0, .int .u64 131072, .int .i64 80, .int .i64 1, .int .i64 0, .int .i64 t]) ∧ Below w.heap.size w w' := by
  have L0 : Hid (Lows w (w.alloc (.cells #[.bool false, .int .u64 0, .int .u64 0, .int .i64 0, .int .i64 0, .int .i64 0, .int .i64 0] 37))) := Lib.hid (Lows.alloc (Lows.self w) _)
  go_enter Try.func12, Try.ntmps12
  go_wp2_with fail
  exact bodyPost_ret (v := .agg #[.bool false, .int .u64 0, .int .u64 131072, .int .i64 80, .int .i64 1, .int .i64 0, .int .i64 t]) (by simp [results, Try.results12, go_sem]) rfl ⟨rfl, by first | exact L0.out | exact Lows.alloc (Lows.self w) _⟩
theorem light_any (A1 : Option Addr) (c1 : Nat) (A2 : Option Addr) (c2 : Nat) (A3 : Option Addr) (c3 : Nat) (n1 n2 n3 : Nat) (w : World) :
    Calls Try.prog 4 #[.agg #[.slice A1 n1 c1, .slice A2 n2 c2, .slice A3 n3 c3]] w fun e w' => e = .returned (.bool (decide (n1 ≤ 30) && decide (n2 ≤ 30) && decide (n3 ≤ 30))) ∧ Below w.heap.size w w' := by
  have L0 : Hid (Lows w (w.alloc (.cells #[.slice A1 n1 c1, .slice A2 n2 c2, .slice A3 n3 c3] 26))) := Lib.hid (Lows.alloc (Lows.self w) _)
  by_cases h1 : n1 ≤ 30
  · have z1 : (n1 : Int) ≤ 30 := by omega
    by_cases h2 : n2 ≤ 30
    · have z2 : (n2 : Int) ≤ 30 := by omega
      by_cases h3 : n3 ≤ 30
      · have z3 : (n3 : Int) ≤ 30 := by omega
        have E : Hid ((decide (n1 ≤ 30) && decide (n2 ≤ 30) && decide (n3 ≤ 30)) = true) := Lib.hid (by simp [h1, h2, h3])
        rw [E.out]
        go_enter Try.func4, Try.ntmps4
        go_wp2_with fail
        go_ret
        exact ⟨rfl, L0.out⟩
      · have z3 : ¬ (n3 : Int) ≤ 30 := by omega
        have E : Hid ((decide (n1 ≤ 30) && decide (n2 ≤ 30) && decide (n3 ≤ 30)) = false) := Lib.hid (by simp [h3])
        rw [E.out]
        go_enter Try.func4, Try.ntmps4
        go_wp2_with fail
        go_ret
        exact ⟨rfl, L0.out⟩
    · have z2 : ¬ (n2 : Int) ≤ 30 := by omega
      have E : Hid ((decide (n1 ≤ 30) && decide (n2 ≤ 30) && decide (n3 ≤ 30)) = false) := Lib.hid (by simp [h2])
      rw [E.out]
      go_enter Try.func4, Try.ntmps4
      go_wp2_with fail
      go_ret
      exact ⟨rfl, L0.out⟩
  · have z1 : ¬ (n1 : Int) ≤ 30 := by omega
    have E : Hid ((decide (n1 ≤ 30) && decide (n2 ≤ 30) && decide (n3 ≤ 30)) = false) := Lib.hid (by simp [h1])
    rw [E.out]
    go_enter Try.func4, Try.ntmps4
    go_wp2_with fail
    go_ret
    exact ⟨rfl, L0.out⟩
def e28a : Ey := ⟨⟨⟨false, 0, 65536⟩, 80⟩, 1, 0, 5⟩
def e28b : Ey := ⟨⟨⟨false, 0, 131072⟩, 80⟩, 1, 0, 3⟩
def b28 : Ba.Ban := ⟨⟨⟨false, 0, 131072⟩, 32⟩, 20⟩
theorem e28_all : ∀ y ∈ [e28a, e28b], y.ok := fun y hy => by
  rcases List.mem_cons.1 hy with rfl | hy
  · exact ⟨⟨⟨by decide, by decide⟩, by decide, by decide⟩, by unfold Bk.i64B; decide, by unfold Bk.i64B; decide, by unfold Bk.i64B; decide⟩
  · rw [List.mem_singleton] at hy
    subst hy
    exact ⟨⟨⟨by decide, by decide⟩, by decide, by decide⟩, by unfold Bk.i64B; decide, by unfold Bk.i64B; decide, by unfold Bk.i64B; decide⟩
theorem b28_all : ∀ x ∈ [b28], x.ok := fun x hx => by rw [List.mem_singleton] at hx; subst hx; exact ⟨⟨⟨by decide, by decide⟩, by decide, by decide⟩, by decide, by decide⟩
theorem p28_all : ∀ p ∈ ([] : List Pr), p.ok := fun p hp => absurd hp List.not_mem_nil
theorem x28_all : ∀ x ∈ ([] : List Ba.Ban), x.ok := fun p hp => absurd hp List.not_mem_nil
theorem ex28a : pickR [e28a, e28b] [] [] 9 = some ⟨3, ⟨⟨false, 0, 131072⟩, 80⟩⟩ := by kernel_rfl
theorem ex28b : pickR [e28a, e28b] [] [b28] 9 = some ⟨5, ⟨⟨false, 0, 65536⟩, 80⟩⟩ := by kernel_rfl
theorem ex28c : whenR [e28a, e28b] 4 = 5 := by kernel_rfl
theorem ex28d : mayR [e28a, e28b] [] [b28] e28a 5 = true := by kernel_rfl
theorem ex28e : Ci.fullN ⟨false, 0, 131072⟩ = ⟨⟨false, 0, 131072⟩, 32⟩ := by kernel_rfl
theorem seen28 {w : World} {g : Nat} (h : Blk w g 37 [.bool false, .int .u64 0, .int .u64 65536, .int .i64 80, .int .i64 1, .int .i64 0, .int .i64 5, .bool false, .int .u64 0, .int .u64 131072, .int .i64 80, .int .i64 1, .int .i64 0, .int .i64 3]) : Seen w (some ⟨g, 0, none⟩) 2 none 0 none 0 [e28a, e28b] [] [] :=
  ⟨Blk.reads (m := 2) encY_len7 h (by rfl) rfl (Nat.le_refl _), Recs.nil _ _ _, Recs.nil _ _ _, e28_all, p28_all, x28_all, by decide, by decide, by decide⟩
theorem seen28b {w : World} {g k : Nat} (h : Blk w g 37 [.bool false, .int .u64 0, .int .u64 65536, .int .i64 80, .int .i64 1, .int .i64 0, .int .i64 5, .bool false, .int .u64 0, .int .u64 131072, .int .i64 80, .int .i64 1, .int .i64 0, .int .i64 3]) (hk : Blk w k 45 [.bool false, .int .u64 0, .int .u64 131072, .int .i64 32, .int .i64 20]) : Seen w (some ⟨g, 0, none⟩) 2 none 0 (some ⟨k, 0, none⟩) 1 [e28a, e28b] [] [b28] :=
  ⟨Blk.reads (m := 2) encY_len7 h (by rfl) rfl (Nat.le_refl _), Recs.nil _ _ _, Blk.reads (m := 1) encB_len hk (by rfl) rfl (Nat.le_refl _), e28_all, p28_all, b28_all, by decide, by decide, by decide⟩
set_option maxHeartbeats 16000000 in
theorem awake28_any (w : World) : Calls Try.prog 5 #[] w fun e w' => e = .returned (.bool true) ∧ Below w.heap.size w w' := by
  have L0 : Hid (Lows w w) := Lib.hid (Lows.self w)
  have K1 := Lib.hid (fun W => at1_any 5 W)
  have K2 := Lib.hid (fun W => at2_any 3 W)
  go_enter Try.func5, Try.ntmps5
  go_wp2_with fail
  refine (K1.out _).mono ?_; rintro e w1 ⟨rfl, hb1⟩
  have L1 := Lib.hid (low_trans L0.out hb1)
  clear hb1 K1 L0
  go_wp2_with fail
  refine (K2.out _).mono ?_; rintro e w2 ⟨rfl, hb2⟩
  have L2 := Lib.hid (low_trans L1.out hb2)
  clear hb2 K2 L1
  have L3 : Hid (Lows w ((w2.alloc (.cells #[.bool false, .int .u64 0, .int .u64 65536, .int .i64 80, .int .i64 1, .int .i64 0, .int .i64 5, .bool false, .int .u64 0, .int .u64 131072, .int .i64 80, .int .i64 1, .int .i64 0, .int .i64 3] 37)).alloc (.cells #[.slice (some ⟨w2.heap.size, 0, none⟩) 2 2, .slice none 0 0, .slice none 0 0] 26))) := Lib.hid (Lows.alloc (Lows.alloc L2.out _) _)
  have O14 : Hid (Blk ((w2.alloc (.cells #[.bool false, .int .u64 0, .int .u64 65536, .int .i64 80, .int .i64 1, .int .i64 0, .int .i64 5, .bool false, .int .u64 0, .int .u64 131072, .int .i64 80, .int .i64 1, .int .i64 0, .int .i64 3] 37)).alloc (.cells #[.slice (some ⟨w2.heap.size, 0, none⟩) 2 2, .slice none 0 0, .slice none 0 0] 26)) w2.heap.size 37 [.bool false, .int .u64 0, .int .u64 65536, .int .i64 80, .int .i64 1, .int .i64 0, .int .i64 5, .bool false, .int .u64 0, .int .u64 131072, .int .i64 80, .int .i64 1, .int .i64 0, .int .i64 3]) := Lib.hid ((Blk.new w2 #[.bool false, .int .u64 0, .int .u64 65536, .int .i64 80, .int .i64 1, .int .i64 0, .int .i64 5, .bool false, .int .u64 0, .int .u64 131072, .int .i64 80, .int .i64 1, .int .i64 0, .int .i64 3] 37).alloc (.cells #[.slice (some ⟨w2.heap.size, 0, none⟩) 2 2, .slice none 0 0, .slice none 0 0] 26))
  have OV : Hid (Blk ((w2.alloc (.cells #[.bool false, .int .u64 0, .int .u64 65536, .int .i64 80, .int .i64 1, .int .i64 0, .int .i64 5, .bool false, .int .u64 0, .int .u64 131072, .int .i64 80, .int .i64 1, .int .i64 0, .int .i64 3] 37)).alloc (.cells #[.slice (some ⟨w2.heap.size, 0, none⟩) 2 2, .slice none 0 0, .slice none 0 0] 26)) (w2.heap.size + 1) 26 [.slice (some ⟨w2.heap.size, 0, none⟩) 2 2, .slice none 0 0, .slice none 0 0]) := Lib.hid (Blk.two w2 (.cells #[.bool false, .int .u64 0, .int .u64 65536, .int .i64 80, .int .i64 1, .int .i64 0, .int .i64 5, .bool false, .int .u64 0, .int .u64 131072, .int .i64 80, .int .i64 1, .int .i64 0, .int .i64 3] 37) #[.slice (some ⟨w2.heap.size, 0, none⟩) 2 2, .slice none 0 0, .slice none 0 0] 26)
  have KP := Lib.hid (pick_any (some ⟨w2.heap.size, 0, none⟩) 2 none 0 none 0 [e28a, e28b] [] [] 9 _ (seen28 O14.out))
  rw [(pickE_some ex28a).1, (pickE_some ex28a).2] at KP
  go_wp2_with fail
  refine KP.out.mono ?_; rintro e w4 ⟨rfl, hb4⟩
  obtain ⟨g, hg⟩ : ∃ g, g = w2.heap.size := ⟨_, rfl⟩
  have hgl : g + 2 ≤ w4.heap.size := by have := hb4.size; rw [hg]; simpa using this
  have L4 := Lib.hid (low_trans L3.out hb4)
  have O14a := Lib.hid (O14.out.on hb4)
  have OVa := Lib.hid (OV.out.on hb4)
  rw [← hg] at O14a OVa ⊢
  have hwg : w.heap.size ≤ g := by rw [hg]; exact L2.out.size
  clear hb4 KP O14 OV L3 L2 hg
  have L5 : Hid (Lows w (w4.alloc (.cells #[.bool false, .int .u64 0, .int .u64 131072, .int .i64 80] 33))) := Lib.hid (Lows.alloc L4.out _)
  have OE := Lib.hid (Blk.new w4 #[.bool false, .int .u64 0, .int .u64 131072, .int .i64 80] 33)
  have O14b := Lib.hid (O14a.out.alloc (.cells #[.bool false, .int .u64 0, .int .u64 131072, .int .i64 80] 33))
  have OVb := Lib.hid (OVa.out.alloc (.cells #[.bool false, .int .u64 0, .int .u64 131072, .int .i64 80] 33))
  have KF := Lib.hid (fun W => Ci.rfull_of ⟨false, 0, 131072⟩ W ⟨by decide, by decide⟩ fun W => Ci.rmake_any ⟨false, 0, 131072⟩ _ W ⟨by decide, by decide⟩ (by decide) (by decide))
  rw [ex28e] at KF
  clear L4 O14a OVa
  go_wp2_with fail
  obtain ⟨w5, hw5⟩ : ∃ x, x = w4.alloc (.cells #[.bool false, .int .u64 0, .int .u64 131072, .int .i64 80] 33) := ⟨_, rfl⟩
  obtain ⟨q, hq⟩ : ∃ q, q = w4.heap.size := ⟨_, rfl⟩
  rw [← hw5] at L5 OE O14b OVb ⊢
  rw [← hq] at OE hgl ⊢
  clear hw5 hq
  refine (KF.out _).mono ?_; rintro e w6 ⟨rfl, hb6⟩
  have L6 := Lib.hid (low_trans L5.out hb6)
  have O14c := Lib.hid ((O14b.out.on hb6).alloc (.cells #[.bool false, .int .u64 0, .int .u64 131072, .int .i64 32, .int .i64 20] 45))
  have OVc := Lib.hid ((OVb.out.on hb6).alloc (.cells #[.bool false, .int .u64 0, .int .u64 131072, .int .i64 32, .int .i64 20] 45))
  have OEc := Lib.hid ((OE.out.on hb6).alloc (.cells #[.bool false, .int .u64 0, .int .u64 131072, .int .i64 32, .int .i64 20] 45))
  have OB := Lib.hid (Blk.new w6 #[.bool false, .int .u64 0, .int .u64 131072, .int .i64 32, .int .i64 20] 45)
  have hql : q < w6.heap.size := by have := (OE.out.on hb6).lt; exact this
  have v2 := OVc.out.cell (j := 2) rfl
  have f2 := OVc.out.free 2
  have v2b := (OVb.out.on hb6).cell (j := 2) rfl
  have f2b := (OVb.out.on hb6).free 2
  clear hb6 KF L5 OE O14b OVb
  have O14e : Hid (Blk ((w6.alloc (.cells #[.bool false, .int .u64 0, .int .u64 131072, .int .i64 32, .int .i64 20] 45)).setCell ⟨g + 1, 2, none⟩ (.slice (some ⟨w6.heap.size, 0, none⟩) 1 1)) g 37 [.bool false, .int .u64 0, .int .u64 65536, .int .i64 80, .int .i64 1, .int .i64 0, .int .i64 5, .bool false, .int .u64 0, .int .u64 131072, .int .i64 80, .int .i64 1, .int .i64 0, .int .i64 3]) := Lib.hid (O14c.out.but (Bt.setCell _ _ _ _) (by omega))
  have OEe : Hid (Blk ((w6.alloc (.cells #[.bool false, .int .u64 0, .int .u64 131072, .int .i64 32, .int .i64 20] 45)).setCell ⟨g + 1, 2, none⟩ (.slice (some ⟨w6.heap.size, 0, none⟩) 1 1)) q 33 [.bool false, .int .u64 0, .int .u64 131072, .int .i64 80]) := Lib.hid (OEc.out.but (Bt.setCell _ _ _ _) (by omega))
  have OBe : Hid (Blk ((w6.alloc (.cells #[.bool false, .int .u64 0, .int .u64 131072, .int .i64 32, .int .i64 20] 45)).setCell ⟨g + 1, 2, none⟩ (.slice (some ⟨w6.heap.size, 0, none⟩) 1 1)) w6.heap.size 45 [.bool false, .int .u64 0, .int .u64 131072, .int .i64 32, .int .i64 20]) := Lib.hid (OB.out.but (Bt.setCell _ _ _ _) (by omega))
  have OVe : Hid (Blk ((w6.alloc (.cells #[.bool false, .int .u64 0, .int .u64 131072, .int .i64 32, .int .i64 20] 45)).setCell ⟨g + 1, 2, none⟩ (.slice (some ⟨w6.heap.size, 0, none⟩) 1 1)) (g + 1) 26 [.slice (some ⟨g, 0, none⟩) 2 2, .slice none 0 0, .slice (some ⟨w6.heap.size, 0, none⟩) 1 1]) := Lib.hid (OVc.out.set 2 _)
  have L7 : Hid (Lows w ((w6.alloc (.cells #[.bool false, .int .u64 0, .int .u64 131072, .int .i64 32, .int .i64 20] 45)).setCell ⟨g + 1, 2, none⟩ (.slice (some ⟨w6.heap.size, 0, none⟩) 1 1))) := Lib.hid (Below.setCell (Lows.alloc L6.out _) (by show w.heap.size ≤ g + 1; omega) _)
  have x0 := OVe.out.cell (j := 0) rfl
  have x1 := OVe.out.cell (j := 1) rfl
  have x2 := OVe.out.cell (j := 2) rfl
  clear O14c OEc OB OVc L6 hql hgl hwg
  go_wp2_with fail
  clear v2 f2 v2b f2b x0 x1 x2
  obtain ⟨w7, hw7⟩ : ∃ x, x = ((w6.alloc (.cells #[.bool false, .int .u64 0, .int .u64 131072, .int .i64 32, .int .i64 20] 45)).setCell ⟨g + 1, 2, none⟩ (.slice (some ⟨w6.heap.size, 0, none⟩) 1 1)) := ⟨_, rfl⟩
  obtain ⟨k, hk⟩ : ∃ k, k = w6.heap.size := ⟨_, rfl⟩
  have O14d : Hid (Blk w7 g 37 [.bool false, .int .u64 0, .int .u64 65536, .int .i64 80, .int .i64 1, .int .i64 0, .int .i64 5, .bool false, .int .u64 0, .int .u64 131072, .int .i64 80, .int .i64 1, .int .i64 0, .int .i64 3]) := Lib.hid (by rw [hw7]; exact O14e.out)
  have OEd : Hid (Blk w7 q 33 [.bool false, .int .u64 0, .int .u64 131072, .int .i64 80]) := Lib.hid (by rw [hw7]; exact OEe.out)
  have OBd : Hid (Blk w7 k 45 [.bool false, .int .u64 0, .int .u64 131072, .int .i64 32, .int .i64 20]) := Lib.hid (by rw [hw7, hk]; exact OBe.out)
  have OVd : Hid (Blk w7 (g + 1) 26 [.slice (some ⟨g, 0, none⟩) 2 2, .slice none 0 0, .slice (some ⟨k, 0, none⟩) 1 1]) := Lib.hid (by rw [hw7, hk]; exact OVe.out)
  have L7a : Hid (Lows w w7) := Lib.hid (by rw [hw7]; exact L7.out)
  rw [← hw7, ← hk]
  clear hw7 hk O14e OEe OBe OVe L7
  have KP := Lib.hid (pick_any (some ⟨g, 0, none⟩) 2 none 0 (some ⟨k, 0, none⟩) 1 [e28a, e28b] [] [b28] 9 w7 (seen28b O14d.out OBd.out))
  rw [(pickE_some ex28b).1, (pickE_some ex28b).2] at KP
  refine KP.out.mono ?_; rintro e w8 ⟨rfl, hb8⟩
  have L9 : Hid (Lows w (w8.alloc (.cells #[.bool false, .int .u64 0, .int .u64 65536, .int .i64 80] 33))) := Lib.hid (Lows.alloc (low_trans L7a.out hb8) _)
  have O14 := Lib.hid ((O14d.out.on hb8).alloc (.cells #[.bool false, .int .u64 0, .int .u64 65536, .int .i64 80] 33))
  have OV := Lib.hid ((OVd.out.on hb8).alloc (.cells #[.bool false, .int .u64 0, .int .u64 65536, .int .i64 80] 33))
  have OB := Lib.hid ((OBd.out.on hb8).alloc (.cells #[.bool false, .int .u64 0, .int .u64 65536, .int .i64 80] 33))
  have OE := Lib.hid ((OEd.out.on hb8).alloc (.cells #[.bool false, .int .u64 0, .int .u64 65536, .int .i64 80] 33))
  have OF := Lib.hid (Blk.new w8 #[.bool false, .int .u64 0, .int .u64 65536, .int .i64 80] 33)
  clear hb8 KP O14d OEd OBd OVd L7a
  go_wp2_with fail
  obtain ⟨w9, hw9⟩ : ∃ x, x = w8.alloc (.cells #[.bool false, .int .u64 0, .int .u64 65536, .int .i64 80] 33) := ⟨_, rfl⟩
  obtain ⟨r, hr⟩ : ∃ r, r = w8.heap.size := ⟨_, rfl⟩
  rw [← hw9] at L9 O14 OV OB OE OF ⊢
  rw [← hr] at OF ⊢
  clear hw9 hr
  have SE := fun (W : World) (hW : Lows w9 W) => seen28b (O14.out.on hW) (OB.out.on hW)
  have CW := Lib.hid (fun (W : World) (hW : Lows w9 W) => when_any (some ⟨g, 0, none⟩) 2 none 0 (some ⟨k, 0, none⟩) 1 [e28a, e28b] [] [b28] 4 W (SE W hW))
  have CM := Lib.hid (fun (W : World) (hW : Lows w9 W) => may_any (some ⟨g, 0, none⟩) 2 none 0 (some ⟨k, 0, none⟩) 1 [e28a, e28b] [] [b28] e28a 5 W (SE W hW) (e28_all _ (List.mem_cons_self ..)))
  rw [ex28c] at CW
  rw [ex28d] at CM
  have CW2 : Hid (∀ W, Lows w9 W → Calls Try.prog 14 #[.agg #[.slice (some ⟨g, 0, none⟩) 2 2, .slice none 0 0, .slice (some ⟨k, 0, none⟩) 1 1], .int .i64 4] W fun e w' => e = .returned (.int .i64 5) ∧ Lows w9 w') := Lib.hid fun W hW => (CW.out W hW).mono fun e w' ⟨h1, h2⟩ => ⟨h1, low_trans hW h2⟩
  have CM2 : Hid (∀ W, Lows w9 W → Calls Try.prog 9 #[.agg #[.slice (some ⟨g, 0, none⟩) 2 2, .slice none 0 0, .slice (some ⟨k, 0, none⟩) 1 1], .agg #[.bool false, .int .u64 0, .int .u64 65536, .int .i64 80, .int .i64 1, .int .i64 0, .int .i64 5], .int .i64 5] W fun e w' => e = .returned (.bool true) ∧ Lows w9 w') := Lib.hid fun W hW => (CM.out W hW).mono fun e w' ⟨h1, h2⟩ => ⟨h1, low_trans hW h2⟩
  have CA := lows_call (W0 := w9) (Lib.hid (fun W => at2_any 0 W))
  have CB := lows_call (W0 := w9) (Lib.hid (fun W => at1_any 0 W))
  have CC := lows_call (W0 := w9) (Lib.hid (fun W => at1_any 5 W))
  clear CW CM SE O14 OB
  have hne : Nonempty (Cls (Lows w9)) := ⟨⟨_, Lows.self _⟩⟩
  have Q2 : ∀ W : World, (binOp .eql 33 (.agg #[.bool false, .int .u64 0, .int .u64 131072, .int .i64 80]) (.agg #[.bool false, .int .u64 0, .int .u64 131072, .int .i64 80])).run Try.prog W = .ok (.bool true) W := fun W => by have := eqEnd ⟨⟨false, 0, 131072⟩, 80⟩ ⟨⟨false, 0, 131072⟩, 80⟩ W; rw [same_selfE] at this; exact this
  have Q1 : ∀ W : World, (binOp .eql 33 (.agg #[.bool false, .int .u64 0, .int .u64 65536, .int .i64 80]) (.agg #[.bool false, .int .u64 0, .int .u64 65536, .int .i64 80])).run Try.prog W = .ok (.bool true) W := fun W => by have := eqEnd ⟨⟨false, 0, 65536⟩, 80⟩ ⟨⟨false, 0, 65536⟩, 80⟩ W; rw [same_selfE] at this; exact this
  have P2 : ∀ W : World, (Instr.field 37 (.agg #[.bool false, .int .u64 0, .int .u64 131072, .int .i64 80, .int .i64 1, .int .i64 0, .int .i64 0]) 0).run Try.prog W = .ok (.agg #[.bool false, .int .u64 0, .int .u64 131072, .int .i64 80]) W := fun W => by kernel_rfl
  have P1 : ∀ W : World, (Instr.field 37 (.agg #[.bool false, .int .u64 0, .int .u64 65536, .int .i64 80, .int .i64 1, .int .i64 0, .int .i64 0]) 0).run Try.prog W = .ok (.agg #[.bool false, .int .u64 0, .int .u64 65536, .int .i64 80]) W := fun W => by kernel_rfl
  have d0 : ∀ nq : Cls (Lows w9), nq.w.cell? ⟨(g + 1), 0, none⟩ = some (.slice (some ⟨g, 0, none⟩) 2 2) := fun nq => Blk.in OV nq.h rfl
  have d1 : ∀ nq : Cls (Lows w9), nq.w.cell? ⟨(g + 1), 1, none⟩ = some (.slice none 0 0) := fun nq => Blk.in OV nq.h rfl
  have d2 : ∀ nq : Cls (Lows w9), nq.w.cell? ⟨(g + 1), 2, none⟩ = some (.slice (some ⟨k, 0, none⟩) 1 1) := fun nq => Blk.in OV nq.h rfl
  have e0 : ∀ nq : Cls (Lows w9), nq.w.cell? ⟨q, 0, none⟩ = some (.bool false) := fun nq => Blk.in OE nq.h rfl
  have e1 : ∀ nq : Cls (Lows w9), nq.w.cell? ⟨q, 1, none⟩ = some (.int .u64 0) := fun nq => Blk.in OE nq.h rfl
  have e2 : ∀ nq : Cls (Lows w9), nq.w.cell? ⟨q, 2, none⟩ = some (.int .u64 131072) := fun nq => Blk.in OE nq.h rfl
  have e3 : ∀ nq : Cls (Lows w9), nq.w.cell? ⟨q, 3, none⟩ = some (.int .i64 80) := fun nq => Blk.in OE nq.h rfl
  have f0 : ∀ nq : Cls (Lows w9), nq.w.cell? ⟨r, 0, none⟩ = some (.bool false) := fun nq => Blk.in OF nq.h rfl
  have f1 : ∀ nq : Cls (Lows w9), nq.w.cell? ⟨r, 1, none⟩ = some (.int .u64 0) := fun nq => Blk.in OF nq.h rfl
  have f2 : ∀ nq : Cls (Lows w9), nq.w.cell? ⟨r, 2, none⟩ = some (.int .u64 65536) := fun nq => Blk.in OF nq.h rfl
  have f3 : ∀ nq : Cls (Lows w9), nq.w.cell? ⟨r, 3, none⟩ = some (.int .i64 80) := fun nq => Blk.in OF nq.h rfl
  clear OV OE OF
  refine Cls.region (Lows w9) (by kernel_rfl) (by kernel_rfl) (low_drewN (Below.refl _ _) 1) ?_
  (try dsimp only [List.append])
  repeat (go_big_quiet_step (first | fail | (with_reducible exact Cls.call (CA.out _ (Cls.h _))) | (with_reducible exact Cls.call (CB.out _ (Cls.h _))) | (with_reducible exact Cls.call (CC.out _ (Cls.h _))) | (with_reducible exact Cls.call (CW2.out _ (Cls.h _))) | (with_reducible exact Cls.call (CM2.out _ (Cls.h _)))))
  refine wpQuiet_nil ?_
  intro n9
  have hk9 := n9.h
  generalize n9.w = w10 at hk9 ⊢
  have HL9 := Lib.hid (low_trans L9.out hk9)
  clear hne n9
  go_wp2_with fail
  go_ret
  exact ⟨rfl, HL9.out⟩
end Go.Proofs.Ytgnjbbohphoojaa
