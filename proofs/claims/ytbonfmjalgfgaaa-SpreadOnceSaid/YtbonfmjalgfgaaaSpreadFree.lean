/- Is an address's group free? -/
import Derived.Test.YtbonfmjalgfgaaaSpreadOps
namespace Go.Proofs.Ytbonfmjalgfgaaa.Sp
set_option maxRecDepth 100000
open Go.ChangeShapes Go.WideShapes Go.ChangeAt Go.RowKit
open Go.Shelf
open Pe Et Ra Bo
open Dec Words V4 V6 Ad Ci En Gr Go.Deep
set_option linter.unusedVariables false
attribute [local go_sem] Oper.semAt_some
set_option maxHeartbeats 8000000 in
theorem freeN_any (vp vb : Value) (L : List Pe.Pr) (b : List Ey) (a : Adr) (w : World) (hP : Peers w vp L) (hE : Books w vb b) (hl : L.length ≤ 400000) (hbl : b.length ≤ 400000) (hok : ∀ x ∈ L, x.ok) (hyo : ∀ y ∈ b, y.ok) (ha : a.ok) :
    Calls Try.prog 9 #[vp, vb, .agg #[.bool a.v6, .int .u64 a.hi, .int .u64 a.lo]] w fun e w' => e = .returned (.bool (freeR L b a)) ∧ Below w.heap.size w w' := by
  have HP := Lib.hid hP
  have HE := Lib.hid hE
  have HO := Lib.hid (show (∀ x ∈ L, x.ok) ∧ (∀ y ∈ b, y.ok) ∧ L.length ≤ 400000 ∧ b.length ≤ 400000 from ⟨hok, hyo, hl, hbl⟩)
  obtain ⟨A1, c1, rfl, _, _, _⟩ := hP
  obtain ⟨A2, c2, rfl, _, _, _⟩ := hE
  obtain ⟨n1, hn1⟩ : ∃ m, m = L.length := ⟨_, rfl⟩
  obtain ⟨n2, hn2⟩ : ∃ m, m = b.length := ⟨_, rfl⟩
  rw [← hn1] at HP ⊢
  rw [← hn2] at HE ⊢
  clear hok hyo hl hbl hn1 hn2
  refine (callsIn_wide (n := 8)).1 ?_
  obtain ⟨n, hn⟩ : ∃ n, n = 8 := ⟨_, rfl⟩
  obtain ⟨F, hF⟩ : ∃ F, F = Fence.wide := ⟨_, rfl⟩
  rw [← hF, ← hn]
  have h1 : 1 ≤ n := by omega
  have hn3 : 3 ≤ n := by omega
  clear hn
  have hfn : ∀ f, F.fn f := fun f => by rw [hF]; trivial
  have hro : F.round = none := by rw [hF]; rfl
  have KR : Hid (∀ (m : Nat) (V : World), CallsIn F m Try.prog 18 #[.agg #[.bool a.v6, .int .u64 a.hi, .int .u64 a.lo]] V fun e w' => e = .returned (.bool (rightA a)) ∧ Below V.heap.size V w') := Lib.hid fun m V => by rw [hF]; exact callsIn_wide.2 (right_any a V ha)
  have KO : Hid (∀ (m : Nat) (V : World), CallsIn F m Try.prog 19 #[.agg #[.bool a.v6, .int .u64 a.hi, .int .u64 a.lo]] V fun e w' => e = .returned (.agg #[.bool (groupN a).a.v6, .int .u64 (groupN a).a.hi, .int .u64 (groupN a).a.lo, .int .i64 (groupN a).n]) ∧ Below V.heap.size V w') := Lib.hid fun m V => by rw [hF]; exact callsIn_wide.2 (groupOf_any a V ha)
  have KG : Hid (∀ (m : Nat) (V : World), CallsIn F m Try.prog 14 #[.slice A1 n1 c1, .slice A2 n2 c2] V fun e w' => ∃ B1 B2, e = .returned (.func (.func 24) #[] #[.pointer (some ⟨B1, 0, none⟩), .pointer (some ⟨B2, 0, none⟩)]) ∧ Below V.heap.size V w' ∧ B1 < w'.heap.size ∧ B2 < w'.heap.size ∧
      w'.cell? ⟨B1, 0, none⟩ = some (.slice A1 n1 c1) ∧ w'.cell? ⟨B2, 0, none⟩ = some (.slice A2 n2 c2)) := Lib.hid fun m V => by rw [hF]; exact callsIn_wide.2 (groups_any A1 A2 n1 c1 n2 c2 V)
  have HST : Hid (∀ (V : World) (B1 B2 : Nat), Below w.heap.size w V → B1 < V.heap.size → B2 < V.heap.size → V.cell? ⟨B1, 0, none⟩ = some (.slice A1 n1 c1) → V.cell? ⟨B2, 0, none⟩ = some (.slice A2 n2 c2) →
      SeqStopsK F (n - 1) Try.prog 24 #[.pointer (some ⟨B1, 0, none⟩), .pointer (some ⟨B2, 0, none⟩)] (fun x => #[.agg #[.bool x.a.v6, .int .u64 x.a.hi, .int .u64 x.a.lo, .int .i64 x.n]]) (Below V.heap.size) (fun xs => xs = takL L b) (fun pre => pre <+: takL L b) (takL L b).length V) := Lib.hid fun V B1 B2 hb l1 l2 d1 d2 => by
    obtain ⟨ho1, ho2, ho3, ho4⟩ := HO.out
    rw [hF]
    exact groups_stops (n - 1) (by omega) _ _ L b V (HP.out.below hb) (HE.out.below hb) ho3 ho4 ho1 ho2 B1 B2 l1 l2 d1 d2
  clear hF
  have HF : Hid (∀ V, Below (((w.alloc (.cells #[.bool a.v6, .int .u64 a.hi, .int .u64 a.lo] 26)).alloc (.cells #[.bool false] 4))).heap.size ((w.alloc (.cells #[.bool a.v6, .int .u64 a.hi, .int .u64 a.lo] 26)).alloc (.cells #[.bool false] 4)) V → Blk V w.heap.size 26 [.bool a.v6, .int .u64 a.hi, .int .u64 a.lo] ∧ Blk V (w.heap.size + 1) 4 [.bool false] ∧ Below w.heap.size w V) := Lib.hid fun V k =>
    ⟨((Blk.new w #[.bool a.v6, .int .u64 a.hi, .int .u64 a.lo] 26).alloc _).on k, (Blk.two w (.cells #[.bool a.v6, .int .u64 a.hi, .int .u64 a.lo] 26) #[.bool false] 4).on k, (((Below.refl _ _).alloc (Nat.le_refl _) _).alloc (by simp) _).trans (k.mono (by simp; omega))⟩
  obtain ⟨HB5, HB6, HL0⟩ := HF.out _ (Below.refl _ _)
  have z6 := HB6.cell (j := 0) rfl
  have f6 := HB6.free 0
  cases hr : rightA a
  · have E : Hid (freeR L b a = false) := Lib.hid (free_wrong hr)
    rw [hr] at KR
    clear hr
    refine callsIn_of_wp_marks Try.func9 rfl (hfn _) ?_ hro
    simp only [Try.ntmps9, List.size_toArray, List.length_cons, List.length_nil, Nat.reduceAdd, Nat.reduceSub, Array.replicate_succ, Array.replicate_zero, List.push_toArray, List.append_toArray, List.nil_append, List.cons_append]
    gi_wp2_with (first | (gi_at_call 18; refine (KR.out _ _).mono ?_; rintro e w1 ⟨rfl, hb1⟩; obtain ⟨HC5, HC6, HL1⟩ := HF.out _ hb1; have z7 := HC6.cell (j := 0) rfl; have f7 := HC6.free 0) | fail)
    have hc5 := (HC6.set 0 (.bool false)).cell (j := 0) rfl
    refine ⟨.bool false, ?_, by rw [E.out], HL1.setCell (p := ⟨w.heap.size + 1, 0, none⟩) (by simp) _⟩
    simp [results, Try.results9, go_sem, hc5]
  · have HRA := Lib.hid hr
    rw [hr] at KR
    clear hr
    refine callsIn_of_wp_marks Try.func9 rfl (hfn _) ?_ hro
    simp only [Try.ntmps9, List.size_toArray, List.length_cons, List.length_nil, Nat.reduceAdd, Nat.reduceSub, Array.replicate_succ, Array.replicate_zero, List.push_toArray, List.append_toArray, List.nil_append, List.cons_append]
    gi_wp2_with (first
      | (gi_at_call 18; refine (KR.out _ _).mono ?_; rintro e w1 ⟨rfl, hb1⟩; obtain ⟨HC5, HC6, HL1⟩ := HF.out _ hb1; have x0 := HC5.cell (j := 0) rfl; have x1 := HC5.cell (j := 1) rfl; have x2 := HC5.cell (j := 2) rfl)
      | (gi_at_call 19; refine (KO.out _ _).mono ?_; rintro e w2 ⟨rfl, hb2⟩)
      | (gi_at_call 14; refine (KG.out _ _).mono ?_; rintro e w4 ⟨B1, B2, rfl, hb4, l1, l2, d1, d2⟩)
      | fail)
    have HB1 := Lib.hid (show Below (((w.alloc (.cells #[.bool a.v6, .int .u64 a.hi, .int .u64 a.lo] 26)).alloc (.cells #[.bool false] 4))).heap.size ((w.alloc (.cells #[.bool a.v6, .int .u64 a.hi, .int .u64 a.lo] 26)).alloc (.cells #[.bool false] 4)) w4 ∧ Blk w4 w2.heap.size 40 [.bool (groupN a).a.v6, .int .u64 (groupN a).a.hi, .int .u64 (groupN a).a.lo, .int .i64 (groupN a).n] ∧ Below w.heap.size w w4 from by
      have k1 : Below (((w.alloc (.cells #[.bool a.v6, .int .u64 a.hi, .int .u64 a.lo] 26)).alloc (.cells #[.bool false] 4))).heap.size ((w.alloc (.cells #[.bool a.v6, .int .u64 a.hi, .int .u64 a.lo] 26)).alloc (.cells #[.bool false] 4)) w2 := low_trans hb1 hb2
      have k2 : Below (((w.alloc (.cells #[.bool a.v6, .int .u64 a.hi, .int .u64 a.lo] 26)).alloc (.cells #[.bool false] 4))).heap.size ((w.alloc (.cells #[.bool a.v6, .int .u64 a.hi, .int .u64 a.lo] 26)).alloc (.cells #[.bool false] 4)) w4 := low_trans (k1.alloc k1.size (.cells #[.bool (groupN a).a.v6, .int .u64 (groupN a).a.hi, .int .u64 (groupN a).a.lo, .int .i64 (groupN a).n] 40)) hb4
      exact ⟨k2, (Blk.new w2 #[.bool (groupN a).a.v6, .int .u64 (groupN a).a.hi, .int .u64 (groupN a).a.lo, .int .i64 (groupN a).n] 40).on hb4, (HF.out _ k2).2.2⟩)
    obtain ⟨HD5, HD6, HL4⟩ := HF.out _ HB1.out.1
    have hseq := HST.out w4 B1 B2 HL4 l1 l2 d1 d2
    have HQ := Lib.hid (show w.heap.size + 1 < w4.heap.size ∧ w2.heap.size < w4.heap.size from ⟨HD6.lt, HB1.out.2.1.lt⟩)
    clear KR KO KG HST HF hb1 hb2 hb4 l1 l2 d1 d2 z6 f6 HB5 HB6 HL0 x0 x1 x2 HC5 HC6 HL1
    refine wpIn_rangeFunc_ownH (F := F) (n := n) (P := Try.prog) hro h1 (gf := 24) (lb := #[.pointer (some ⟨B1, 0, none⟩), .pointer (some ⟨B2, 0, none⟩)]) rfl (hfn _) (enters_of Try.func24 (by kernel_rfl) rfl) hseq (fun h k => h.trans k) (belowK_b (Nat.le_refl _)) (Below.refl _ _) (fun _ => rfl)
      (fun pre W => (∀ g ∈ pre, sameN g (groupN a) = false) ∧ Below w4.heap.size w4 W)
      (fun c pre W => c = .ret ∧ (∃ xs g, pre = xs ++ [g] ∧ sameN g (groupN a) = true) ∧ W.cell? ⟨w.heap.size + 1, 0, none⟩ = some (.bool false) ∧ Below w.heap.size w W)
      (OwnFrom.and (ownFrom_pure _ _) (ownFrom_below (Nat.le_refl _) (Nat.le_refl _)))
      (fun c s A B row hs hg hr => ⟨hs.1, hs.2.1, cell_kept hs.2.2.1 hg (fun r e => (hr r e).2), hs.2.2.2.grown hg hs.2.2.2.size (fun k e => Nat.le_trans HL4.size (hr k e).1)⟩)
      ⟨fun g hg => by simp at hg, Below.refl _ _⟩
      (fun x a' W => ∃ Bx, w4.heap.size ≤ Bx ∧ Blk W Bx 40 (encM x) ∧ a' = { tmps := #[.slice A1 n1 c1, .slice A2 n2 c2, .agg #[.bool a.v6, .int .u64 a.hi, .int .u64 a.lo], undef, undef, .pointer (some ⟨w.heap.size, 0, none⟩), .pointer (some ⟨w.heap.size + 1, 0, none⟩), .pointer (some ⟨w2.heap.size, 0, none⟩), .pointer (some ⟨Bx, 0, none⟩), .agg #[.bool a.v6, .int .u64 a.hi, .int .u64 a.lo], .bool true, .bool false, .agg #[.bool a.v6, .int .u64 a.hi, .int .u64 a.lo], .agg #[.bool (groupN a).a.v6, .int .u64 (groupN a).a.hi, .int .u64 (groupN a).a.lo, .int .i64 (groupN a).n], .slice A1 n1 c1, .slice A2 n2 c2, .func (.func 24) #[] #[.pointer (some ⟨B1, 0, none⟩), .pointer (some ⟨B2, 0, none⟩)], .agg #[.bool x.a.v6, .int .u64 x.a.hi, .int .u64 x.a.lo, .int .i64 x.n], undef, undef, undef], defers := [] })
      (fun x a' _ A B row hs hg hr => by
        obtain ⟨Bx, h2, h3, h4⟩ := hs
        exact ⟨Bx, h2, blk_own h3 hg (fun r e => (hr r e).2), h4⟩) ?assign ?body ?done ?stop
    case assign =>
      rintro l pre x W K ⟨hno, hB⟩ hK
      gi_wp2_with fail
      exact hK _ _ ((KeepsOthers.alloc _ _).from _) ((Below.refl _ W).alloc hB.size _) ⟨hno, hB.alloc hB.size _⟩ ⟨W.heap.size, hB.size, Blk.new W #[.bool x.a.v6, .int .u64 x.a.hi, .int .u64 x.a.lo, .int .i64 x.n] 40, rfl⟩
    case body =>
      rintro l pre x a' W hl ⟨r, hr⟩ ⟨hno, hB⟩ ⟨Bx, hBx, bX, rfl⟩ hlt
      have EN := fun V => eqNet x (groupN a) V
      have hb6 : Blk W (w.heap.size + 1) 4 [.bool false] := HD6.on hB
      have hb7 : Blk W w2.heap.size 40 [.bool (groupN a).a.v6, .int .u64 (groupN a).a.hi, .int .u64 (groupN a).a.lo, .int .i64 (groupN a).n] := HB1.out.2.1.on hB
      have z6 := hb6.cell (j := 0) rfl
      have f6 := hb6.free 0
      have x0 : W.cell? ⟨Bx, 0, none⟩ = some (.bool x.a.v6) := bX.cell (j := 0) rfl
      have x1 : W.cell? ⟨Bx, 1, none⟩ = some (.int .u64 x.a.hi) := bX.cell (j := 1) rfl
      have x2 : W.cell? ⟨Bx, 2, none⟩ = some (.int .u64 x.a.lo) := bX.cell (j := 2) rfl
      have x3 : W.cell? ⟨Bx, 3, none⟩ = some (.int .i64 x.n) := bX.cell (j := 3) rfl
      have y0 : W.cell? ⟨w2.heap.size, 0, none⟩ = some (.bool (groupN a).a.v6) := hb7.cell (j := 0) rfl
      have y1 : W.cell? ⟨w2.heap.size, 1, none⟩ = some (.int .u64 (groupN a).a.hi) := hb7.cell (j := 1) rfl
      have y2 : W.cell? ⟨w2.heap.size, 2, none⟩ = some (.int .u64 (groupN a).a.lo) := hb7.cell (j := 2) rfl
      have y3 : W.cell? ⟨w2.heap.size, 3, none⟩ = some (.int .i64 (groupN a).n) := hb7.cell (j := 3) rfl
      have HZ := Lib.hid (show Blk W (w.heap.size + 1) 4 [.bool false] ∧ (∀ g ∈ pre, sameN g (groupN a) = false) ∧ Below w4.heap.size w4 W from ⟨hb6, hno, hB⟩)
      clear hno hB hb6 hb7 bX
      cases hs : sameN x (groupN a)
      · have HS := Lib.hid hs
        rw [hs] at EN
        clear hs
        gi_wp2_with fail
        exact ⟨KeepsFrom.refl _ _, Below.refl _ _, fun g hg => (List.mem_append.1 hg).elim (HZ.out.2.1 g) (fun e => by rw [List.mem_singleton] at e; rw [e]; exact HS.out), HZ.out.2.2⟩
      · have HS := Lib.hid hs
        rw [hs] at EN
        clear hs
        gi_wp2_with fail
        exact ⟨(KeepsOthers.setCell _ _ _).from _, rfl, ⟨pre, x, rfl, HS.out⟩, (HZ.out.1.set 0 (.bool false)).cell (j := 0) rfl, (HL4.trans (HZ.out.2.2.mono HL4.size)).setCell (p := ⟨w.heap.size + 1, 0, none⟩) (by simp) _⟩
    case done =>
      rintro D xs W hD rfl ⟨hno, hB⟩ hK
      have E : Hid (freeR L b a = true) := Lib.hid (free_yes HRA.out hno)
      have hb6 : Blk W (w.heap.size + 1) 4 [.bool false] := HD6.on hB
      have z6 := hb6.cell (j := 0) rfl
      have f6 := hb6.free 0
      have HZ := Lib.hid (show Blk W (w.heap.size + 1) 4 [.bool false] ∧ Below w4.heap.size w4 W from ⟨hb6, hB⟩)
      clear hno hB hb6
      gi_wp2_with fail
      have hK' := (KeepsOthers.setCell W ⟨w.heap.size + 1, 0, none⟩ (.bool true)).same D _ hK rfl
      refine ⟨by simp, .inl ⟨_, _, rfl, run_takeDeferred hK', ?_⟩⟩
      have hc5 := cell_kept ((HZ.out.1.set 0 (.bool true)).cell (j := 0) rfl) (grownBy_putObj' _ D (.deferred none)) (fun r e => by cases e; exact ⟨_, hK', rfl⟩)
      have hbW : Below w.heap.size w (W.setCell ⟨w.heap.size + 1, 0, none⟩ (.bool true)) := (HL4.trans (HZ.out.2.mono HL4.size)).setCell (p := ⟨w.heap.size + 1, 0, none⟩) (by simp) _
      refine ⟨.bool true, ?_, by rw [E.out], hbW.trans (belowK_b (w := w) (Nat.le_refl _) _ D _ _ (Nat.le_trans HL4.size hD) hK' rfl rfl)⟩
      simp [results, Try.results9, go_sem, hc5]
    case stop =>
      rintro D c pre W hD hpre ⟨rfl, ⟨xs, g, rfl, hs⟩, hc, hbW⟩ hK
      have E : Hid (freeR L b a = false) := Lib.hid (free_no hpre hs)
      clear hs hpre
      gi_wp2_with fail
      refine ⟨by simp, .inl ⟨_, _, rfl, run_takeDeferred hK, ?_⟩⟩
      have hc5 := cell_kept hc (grownBy_putObj' _ D (.deferred none)) (fun r e => by cases e; exact ⟨_, hK, rfl⟩)
      refine ⟨.bool false, ?_, by rw [E.out], hbW.trans (belowK_b (w := w) (Nat.le_refl _) W D _ _ (Nat.le_trans HL4.size hD) hK rfl rfl)⟩
      simp [results, Try.results9, go_sem, hc5]
end Go.Proofs.Ytbonfmjalgfgaaa.Sp
