/- slices.AppendSeq, Collect, SortedFunc over an iterator; the groups that are taken; is one free? -/
import Derived.Test.YtbonfmjalgfgaaaSpreadIter
import Derived.Test.YtbonfmjalgfgaaaSpreadCompact
import Derived.Test.YtbonfmjalgfgaaaSpreadSort
namespace Go.Proofs.Ytbonfmjalgfgaaa.Sp
set_option maxRecDepth 100000
open Go.ChangeShapes Go.WideShapes Go.ChangeAt Go.RowKit
open Go.Shelf
open Pe Et Ra Bo
open Dec Words V4 V6 Ad Ci En Gr Go.Deep
set_option linter.unusedVariables false
attribute [local go_sem] Oper.semAt_some
theorem blk_own {W W' : World} {row : Option Nat} {b : Nat} {t : TypeId} {vs : List Value} (h : Blk W b t vs) (hg : W.grownBy W' row) (hr : ∀ r, row = some r → ∃ o : Obj, W.heap[r]? = some o ∧ o.isCells = false) : Blk W' b t vs :=
  (hg.block b h.lt (fun e => by
    obtain ⟨o, ho, hc⟩ := hr b e.symm
    rw [show W.heap[b]? = _ from h] at ho
    cases ho
    cases hc)).trans h
theorem stops_sub {F : Fence} {n : Nat} {P : Program} {g : Nat} {lb : Array Value} {encs : Net → Array Value} {Kp : World → World → Prop} {S Sp : List Net → Prop} {N : Nat} {w w' : World} (h : SeqStopsK F n P g lb encs Kp S Sp N w) (hb : Below w.heap.size w w') : SeqStopsK F n P g lb encs Kp S Sp N w' :=
  fun l J Jx W hW hJ hJx hY h0 => h l J Jx W (hb.trans (hW.mono hb.size)) hJ hJx hY h0
set_option maxHeartbeats 8000000 in
/-- slices.AppendSeq at a nil slice, over whatever iterator: just what it gave, in a row of the call's own. -/
theorem appendSeq_in (F : Fence) (hF : F = Fence.wide) (n : Nat) (hn : 3 ≤ n) (g : Nat) (lb : Array Value) (eg : ∀ args w, (callFunc g args).run Try.prog w = .ok (.enter g args) w) (S Sp : List Net → Prop) (N : Nat) (hN : N ≤ 1000000) (w0 w : World) (hw : Below w0.heap.size w0 w)
    (hseq : SeqStopsK F (n - 1) Try.prog g lb (fun x => #[.agg #[.bool x.a.v6, .int .u64 x.a.hi, .int .u64 x.a.lo, .int .i64 x.n]]) (Below w0.heap.size) S Sp N w0) :
    CallsIn F n Try.prog 34 #[.slice none 0 0, .func (.func g) #[] lb] w fun e w' => ∃ v xs, e = .returned v ∧ S xs ∧ OwnM w.heap.size w' v xs ∧ Below w.heap.size w w' := by
  have h1 : 1 ≤ n := by omega
  have hfn : ∀ f, F.fn f := fun f => by rw [hF]; trivial
  have hro : F.round = none := by rw [hF]; rfl
  clear hF
  obtain ⟨i0, hi0, hz0, hz1, hz2⟩ := info_parts info_net
  refine callsIn_of_wp_marks Try.func34 rfl (hfn _) ?_ hro
  simp only [Try.ntmps34, List.size_toArray, List.length_cons, List.length_nil, Nat.reduceAdd, Nat.reduceSub, Array.replicate_succ, Array.replicate_zero, List.push_toArray, List.append_toArray, List.nil_append, List.cons_append]
  gi_wp2_with fail
  have hs0 : (w.alloc (.cells #[.slice none 0 0] 29)).heap.size = w.heap.size + 1 := by simp
  have hb0 : Below w0.heap.size w0 (w.alloc (.cells #[.slice none 0 0] 29)) := hw.alloc hw.size _
  have hv0 : Go.Boxed (w.alloc (.cells #[.slice none 0 0] 29)) w.heap.size 29 (.slice none 0 0) := Go.Boxed.new w _ _
  have hbw : Below w.heap.size w (w.alloc (.cells #[.slice none 0 0] 29)) := (Below.refl _ _).alloc (Nat.le_refl _) _
  obtain ⟨W0, hW0⟩ : ∃ W0, w.alloc (.cells #[.slice none 0 0] 29) = W0 := ⟨_, rfl⟩
  rw [hW0] at hs0 hb0 hv0 hbw ⊢
  clear hW0
  refine wpIn_rangeFunc_ownH (F := F) (n := n) (P := Try.prog) hro h1 (gf := g) (lb := lb) rfl (hfn _) eg hseq (fun h k => h.trans k) (belowK_b hb0.size) hb0 (fun _ => rfl)
    (fun pre W => (∃ v, Go.Boxed W w.heap.size 29 v ∧ W.ownsRow w.heap.size 40 4 v pre.length (flat encM pre) ∧ True) ∧ Below w.heap.size w W)
    (fun _ _ _ => False)
    (OwnFrom.and ((holdsRow_own w.heap.size w.heap.size 29 40 4 (fun pre : List Net => pre.length) (fun pre => flat encM pre) (fun _ _ => True)).from _) (ownFrom_below (Nat.le_refl _) hbw.size))
    (fun _ _ _ _ _ hs _ _ => hs)
    ⟨⟨_, hv0, ⟨rfl, Or.inl ⟨rfl, rfl⟩⟩, trivial⟩, hbw⟩
    (fun x a' W => ∃ Bx, w.heap.size < Bx ∧ Blk W Bx 40 (encM x) ∧ a' = { tmps := #[.slice none 0 0, .func (.func g) #[] lb, .pointer (some ⟨w.heap.size, 0, none⟩), undef, .slice none 0 0, .pointer (some ⟨Bx, 0, none⟩), .func (.func g) #[] lb, .agg #[.bool x.a.v6, .int .u64 x.a.hi, .int .u64 x.a.lo, .int .i64 x.n], undef, undef, undef, undef, undef], defers := [] })
    (fun x a' _ A B row hs hg hr => by
      obtain ⟨Bx, h2, h3, h4⟩ := hs
      exact ⟨Bx, h2, blk_own h3 hg (fun r e => (hr r e).2), h4⟩) ?assign ?body ?done ?stop
  case assign =>
    rintro l pre x W K ⟨⟨v, hv, hrow, _⟩, hB⟩ hK
    gi_wp2_with fail
    exact hK _ _ ((KeepsOthers.alloc _ _).from _) ((Below.refl _ W).alloc (Nat.le_trans hw.size hB.size) _) ⟨⟨v, hv.alloc _, hrow.alloc _, trivial⟩, hB.alloc hB.size _⟩ ⟨W.heap.size, hv.lt, Blk.new W #[.bool x.a.v6, .int .u64 x.a.hi, .int .u64 x.a.lo, .int .i64 x.n] 40, rfl⟩
  case body =>
    rintro l pre x a' W hl ⟨r, hr⟩ ⟨⟨v, hv, hrow, _⟩, hB⟩ ⟨Bx, hBx, bX, rfl⟩ hlt
    have hc := hv.cell
    have hf := hv.frozen
    have x0 : W.cell? ⟨Bx, 0, none⟩ = some (.bool x.a.v6) := bX.cell (j := 0) rfl
    have x1 : W.cell? ⟨Bx, 1, none⟩ = some (.int .u64 x.a.hi) := bX.cell (j := 1) rfl
    have x2 : W.cell? ⟨Bx, 2, none⟩ = some (.int .u64 x.a.lo) := bX.cell (j := 2) rfl
    have x3 : W.cell? ⟨Bx, 3, none⟩ = some (.int .i64 x.n) := bX.cell (j := 3) rfl
    have HB := Lib.hid hB
    have HX := Lib.hid bX
    have hpl : pre.length ≤ 1000000 := by omega
    have h4 : (flat encM pre).length = pre.length * 4 := flat_len encM_len pre
    gi_wp2_with (first
      | (gi_at_builtin; refine wpListIn_append_own _ rfl _ _ 29 rfl w.heap.size 40 i0 (.agg #[.bool false, .int .u64 0, .int .u64 0, .int .i64 0]) 4 32 Try.underlying29 hi0 hz0 hz1 hz2 rfl (by decide) _ _ _ rfl (hrow.alloc _) ⟨W.heap.size, 0, none⟩ 1 1 [.bool x.a.v6, .int .u64 x.a.hi, .int .u64 x.a.lo, .int .i64 x.n] rfl rfl (fun j u hj => by rw [add_plain, Nat.zero_add]; exact (Blk.new W #[.bool x.a.v6, .int .u64 x.a.hi, .int .u64 x.a.lo, .int .i64 x.n] 40).cell hj) (by simp [Value.oneCell']) (by simp only [maxLen]; omega) (by omega) (by have := HB.out.size; simp; omega) ?_; intro v' w1 hown' hgrow _; obtain ⟨g', cap', rfl⟩ := ownsRow_succ hown'; obtain ⟨hv1, hv2, hr2, hk2, hb2⟩ := hv.appended (by decide) hrow HB.out.size (Nat.le_refl _) hown' hgrow; have hc1 := hv1.cell; have hf1 := hv1.frozen)
      | fail)
    refine ⟨hk2.from _, hb2.mono hw.size, ⟨_, hv2, ?_, trivial⟩, HB.out.trans hb2⟩
    rw [flat_append, flat_one, List.length_append]
    exact hr2
  case done =>
    rintro D xs W hD hS ⟨⟨v, hv, hrow, _⟩, hB⟩ hK
    have hc := hv.cell
    gi_wp2_with fail
    refine ⟨by simp, .inl ⟨_, _, rfl, run_takeDeferred hK, ?_⟩⟩
    exact ⟨_, results_tmp rfl _ _ _, v, xs, rfl, hS, ownsRow_putObj hrow _ hK rfl, hB.trans (belowK_b (w := w) (Nat.le_refl _) W D _ _ (by omega) hK rfl rfl)⟩
  case stop =>
    rintro D c pre W _ _ h _
    exact h.elim
theorem collectN_any (g : Nat) (lb : Array Value) (eg : ∀ args w, (callFunc g args).run Try.prog w = .ok (.enter g args) w) (S Sp : List Net → Prop) (N : Nat) (hN : N ≤ 1000000) (w0 w : World) (hw : Below w0.heap.size w0 w)
    (hseq : SeqStopsK Fence.wide 4 Try.prog g lb (fun x => #[.agg #[.bool x.a.v6, .int .u64 x.a.hi, .int .u64 x.a.lo, .int .i64 x.n]]) (Below w0.heap.size) S Sp N w0) :
    Calls Try.prog 22 #[.func (.func g) #[] lb] w fun e w' => ∃ v xs, e = .returned v ∧ S xs ∧ OwnM w.heap.size w' v xs ∧ Below w.heap.size w w' := by
  have KA := Lib.hid (callsIn_wide.1 (appendSeq_in Fence.wide rfl 5 (by omega) g lb eg S Sp N hN w0 w hw hseq))
  clear hseq hw
  go_enter Try.func22, Try.ntmps22
  go_wp2_with fail
  refine KA.out.mono ?_; rintro e w1 ⟨v, xs, rfl, hS, hO, hB⟩
  have HR := Lib.hid (show S xs ∧ OwnM w.heap.size w1 v xs ∧ Below w.heap.size w w1 from ⟨hS, hO, hB⟩)
  clear hS hO hB
  go_wp2_with fail
  go_ret
  exact ⟨_, xs, rfl, HR.out⟩
set_option maxHeartbeats 1000000 in
theorem sortedN_any (g : Nat) (lb : Array Value) (eg : ∀ args w, (callFunc g args).run Try.prog w = .ok (.enter g args) w) (S Sp : List Net → Prop) (N : Nat) (hN : N ≤ 1000000) (w0 w : World) (hw : Below w0.heap.size w0 w)
    (hseq : SeqStopsK Fence.wide 4 Try.prog g lb (fun x => #[.agg #[.bool x.a.v6, .int .u64 x.a.hi, .int .u64 x.a.lo, .int .i64 x.n]]) (Below w0.heap.size) S Sp N w0) (hS : ∀ xs, S xs → (∀ x ∈ xs, x.ok) ∧ xs.length ≤ 1000000) :
    Calls Try.prog 13 #[.func (.func g) #[] lb, .func (.func 15) #[] #[]] w fun e w' => ∃ v xs s, e = .returned v ∧ S xs ∧ s.Perm xs ∧ Up s ∧ Below w.heap.size w w' ∧ s.length ≤ 1000000 ∧
      ((s = [] ∧ ∃ A c, v = .slice A 0 c ∧ Nets w' v []) ∨ (0 < s.length ∧ ∃ g cap Z, v = .slice (some ⟨g, 0, none⟩) s.length cap ∧ s.length ≤ cap ∧ w.heap.size ≤ g ∧ Blk w' g 40 (flat encM s ++ Z))) := by
  have KC := Lib.hid (collectN_any g lb eg S Sp N hN w0 w hw hseq)
  have HS := Lib.hid hS
  clear hseq hw hS
  go_enter Try.func13, Try.ntmps13
  go_wp2_with fail
  refine KC.out.mono ?_; rintro e w1 ⟨v, xs, rfl, hx, hO, hb⟩
  clear KC
  obtain ⟨hok, hl⟩ := HS.out xs hx
  rcases Nat.eq_zero_or_pos xs.length with h0 | h0
  · obtain rfl := List.eq_nil_of_length_eq_zero h0
    obtain ⟨_, ⟨rfl, _⟩ | ⟨g1, cap, cur, rfl, _⟩⟩ := id hO
    all_goals
      have HO := Lib.hid (ownM_nets hO)
      have HL := Lib.hid (show Below w.heap.size w w1 ∧ S [] from ⟨hb, hx⟩)
      clear hO hb hx hok hl h0
      have KS := Lib.hid fun W c p => sortN_none W c p
      go_wp2_with fail
      refine (KS.out _ _ _).mono ?_; rintro e w2 ⟨rfl, rfl⟩
      go_wp2_with fail
      go_ret
      exact ⟨_, [], [], rfl, HL.out.2, List.Perm.refl _, List.Pairwise.nil, HL.out.1, Nat.zero_le _, Or.inl ⟨rfl, _, _, rfl, HO.out⟩⟩
  · obtain ⟨g1, cap, Z, rfl, hB, hcap, hblk⟩ := own_blkM hO h0
    have KS := Lib.hid (sortN_any xs w1 g1 cap Z hblk hok hl)
    have HB := Lib.hid (show Below w.heap.size w w1 ∧ w.heap.size ≤ g1 ∧ S xs ∧ xs.length ≤ cap ∧ xs.length ≤ 1000000 ∧ 0 < xs.length from ⟨hb, hB, hx, hcap, hl, h0⟩)
    clear hO hb hblk hB hcap hx hok hl h0
    go_wp2_with fail
    refine KS.out.mono ?_; rintro e w2 ⟨rfl, s, hp, hu, hbl, hbt⟩
    have HI := Lib.hid (show s.Perm xs ∧ Up s ∧ Blk w2 g1 40 (flat encM s ++ Z) ∧ Bt g1 w1 w2 ∧ xs.length = s.length from ⟨hp, hu, hbl, hbt, hp.length_eq.symm⟩)
    clear hp hu hbl hbt
    go_wp2_with fail
    go_ret
    obtain ⟨h1, h2, h3, h4, h5, h6⟩ := HB.out
    obtain ⟨i1, i2, i3, i4, i5⟩ := HI.out
    exact ⟨_, xs, s, rfl, h3, i1, i2, i4.below h1 h2 h1.size, by omega, Or.inr ⟨by omega, g1, cap, Z, by rw [← i5]; rfl, by omega, h2, i3⟩⟩
theorem groups_any (A1 A2 : Option Addr) (n1 c1 n2 c2 : Nat) (w : World) :
    Calls Try.prog 14 #[.slice A1 n1 c1, .slice A2 n2 c2] w fun e w' => ∃ B1 B2, e = .returned (.func (.func 24) #[] #[.pointer (some ⟨B1, 0, none⟩), .pointer (some ⟨B2, 0, none⟩)]) ∧ Below w.heap.size w w' ∧ B1 < w'.heap.size ∧ B2 < w'.heap.size ∧
      w'.cell? ⟨B1, 0, none⟩ = some (.slice A1 n1 c1) ∧ w'.cell? ⟨B2, 0, none⟩ = some (.slice A2 n2 c2) := by
  go_enter Try.func14, Try.ntmps14
  go_wp2_with fail
  go_ret
  exact ⟨_, _, rfl, ((Below.refl _ _).alloc (Nat.le_refl _) _).alloc (by simp) _, by simp; omega, by simp, by simp [go_sem], by simp [go_sem]⟩
/-- What groups hands over is an iterator over those that take a group. -/
theorem groups_stops (m : Nat) (hm : 1 ≤ m) (vp vb : Value) (L : List Pe.Pr) (b : List Ey) (w : World) (hP : Peers w vp L) (hE : Books w vb b) (hl : L.length ≤ 400000) (hbl : b.length ≤ 400000) (hok : ∀ x ∈ L, x.ok) (hyo : ∀ y ∈ b, y.ok) (B1 B2 : Nat)
    (hB1 : B1 < w.heap.size) (hB2 : B2 < w.heap.size) (hc1 : w.cell? ⟨B1, 0, none⟩ = some vp) (hc2 : w.cell? ⟨B2, 0, none⟩ = some vb) :
    SeqStopsK Fence.wide m Try.prog 24 #[.pointer (some ⟨B1, 0, none⟩), .pointer (some ⟨B2, 0, none⟩)] (fun x => #[.agg #[.bool x.a.v6, .int .u64 x.a.hi, .int .u64 x.a.lo, .int .i64 x.n]]) (Below w.heap.size) (fun xs => xs = takL L b) (fun pre => pre <+: takL L b) (takL L b).length w :=
  fun l J Jx W hW hJ _ hY h0 => groups1_in Fence.wide rfl m hm l B1 B2 vp vb L b w hP hE (by omega) (by omega) hok hyo hB1 hB2 hc1 hc2 J Jx W hW hJ hY h0
set_option maxHeartbeats 1000000 in
theorem takenN_any (vp vb : Value) (L : List Pe.Pr) (b : List Ey) (w : World) (hP : Peers w vp L) (hE : Books w vb b) (hl : L.length ≤ 400000) (hbl : b.length ≤ 400000) (hok : ∀ x ∈ L, x.ok) (hyo : ∀ y ∈ b, y.ok) :
    Calls Try.prog 7 #[vp, vb] w fun e w' => ∃ u, e = .returned u ∧ Nets w' u (takR L b) ∧ Below w.heap.size w w' := by
  have HP := Lib.hid hP
  have HE := Lib.hid hE
  have HO := Lib.hid (show (∀ x ∈ L, x.ok) ∧ (∀ y ∈ b, y.ok) ∧ L.length ≤ 400000 ∧ b.length ≤ 400000 from ⟨hok, hyo, hl, hbl⟩)
  obtain ⟨A1, c1, rfl, _, _, _⟩ := hP
  obtain ⟨A2, c2, rfl, _, _, _⟩ := hE
  have KG := Lib.hid (groups_any A1 A2 L.length c1 b.length c2 w)
  clear hok hyo hl hbl
  go_enter Try.func7, Try.ntmps7
  go_wp2_with fail
  refine KG.out.mono ?_; rintro e w1 ⟨B1, B2, rfl, hb1, l1, l2, d1, d2⟩
  obtain ⟨ho1, ho2, ho3, ho4⟩ := HO.out
  have KS := Lib.hid (sortedN_any 24 #[.pointer (some ⟨B1, 0, none⟩), .pointer (some ⟨B2, 0, none⟩)] (enters_of Try.func24 (by kernel_rfl) rfl) (fun xs => xs = takL L b) (fun pre => pre <+: takL L b) (takL L b).length (by have := tak_len L b; omega) w1 w1 (Below.refl _ _)
    (groups_stops 4 (by omega) _ _ L b w1 (HP.out.below hb1) (HE.out.below hb1) ho3 ho4 ho1 ho2 B1 B2 l1 l2 d1 d2) (fun xs hx => by rw [hx]; exact ⟨tak_ok ho1 ho2, by have := tak_len L b; omega⟩))
  have HL := Lib.hid hb1
  clear hb1 l1 l2 d1 d2 KG HP HE ho1 ho2 ho3 ho4
  go_wp2_with fail
  refine KS.out.mono ?_; rintro e w2 ⟨v, xs, s, rfl, hx, hp, hu, hb2, hsl, hv⟩
  have HT : Hid (cpt s s.length = takR L b) := Lib.hid (by rw [cpt_taken hp hu, hx]; rfl)
  have HL2 : Hid (Below w.heap.size w w2) := Lib.hid (low_trans HL.out hb2)
  clear KS hp hu hx
  rcases hv with ⟨rfl, A3, c3, rfl, hn⟩ | ⟨h0, g1, cap, Z, rfl, hcap, hg1, hblk⟩
  · have HN := Lib.hid hn
    have KF := Lib.hid fun v => compact_few v (n := 0) (c := c3) (A := A3) w2 (by omega)
    clear hn hb2
    go_wp2_with fail
    refine (KF.out (.slice none 0 0)).mono ?_; rintro e w3 ⟨rfl, rfl⟩
    go_wp2_with fail
    go_ret
    exact ⟨_, rfl, by rw [← HT.out]; exact HN.out, HL2.out⟩
  · by_cases h2 : s.length < 2
    · have HN : Hid (Nets w2 (.slice (some ⟨g1, 0, none⟩) s.length cap) (takR L b)) := Lib.hid (by
        have e : cpt s s.length = s := by
          rw [cpt_plain s.length (Nat.le_refl _) (fun k h3 h4 => by omega), List.take_length]
        rw [← HT.out, e]
        exact Blk.reads encM_len hblk (by rw [List.take_left' (flat_len encM_len s)]) rfl hcap)
      have KF := Lib.hid fun v => compact_few v (n := s.length) (c := cap) (A := some ⟨g1, 0, none⟩) w2 h2
      clear hb2 hblk
      go_wp2_with fail
      refine (KF.out (.slice none 0 0)).mono ?_; rintro e w3 ⟨rfl, rfl⟩
      go_wp2_with fail
      go_ret
      exact ⟨_, rfl, HN.out, HL2.out⟩
    · have KF := Lib.hid (compact_any g1 cap s Z w2 hblk hcap hsl (by omega))
      have HG := Lib.hid (show w.heap.size ≤ g1 from Nat.le_trans HL.out.size hg1)
      clear hb2 hblk
      go_wp2_with fail
      refine KF.out.mono ?_; rintro e w3 ⟨rfl, hn, ht⟩
      have HN : Hid (Nets w3 (.slice (some ⟨g1, 0, none⟩) (cpt s s.length).length cap) (takR L b)) := Lib.hid (by rw [← HT.out]; exact hn)
      have HL3 : Hid (Below w.heap.size w w3) := Lib.hid (ht.below HL2.out HG.out HL2.out.size)
      clear hn ht
      go_wp2_with fail
      go_ret
      exact ⟨_, rfl, HN.out, HL3.out⟩
end Go.Proofs.Ytbonfmjalgfgaaa.Sp
