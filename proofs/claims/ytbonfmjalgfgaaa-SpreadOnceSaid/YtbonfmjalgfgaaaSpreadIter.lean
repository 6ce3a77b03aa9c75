/- The iterator over those that take a group: its contract, whatever the loop that ranges over it. -/
import Derived.Test.YtbonfmjalgfgaaaSpreadMem
import Derived.Test.YtbonfmjalgfgaaaPeersAll
import Derived.Test.YtbonfmjalgfgaaaBookAll
import Derived.Test.YtbonfmjalgfgaaaRef08All
import Derived.RangeFuncNested
import Derived.RangeFuncBound
import Derived.RangeFuncCalls
import Derived.RangeFuncLeaves
import Derived.Shelf.Abstract
import Derived.Shelf.RegionOpen
import Derived.WalkKit
import Derived.OwnWalkIn
import Derived.TacticsInMore
import Derived.LoopNIn
import Derived.LoopIn
namespace Go.Proofs.Ytbonfmjalgfgaaa.Sp
set_option maxRecDepth 100000
open Go.ChangeShapes Go.WideShapes Go.ChangeAt Go.RowKit
open Go.Shelf
open Pe Et Ra Bo
open Dec Words V4 V6 Ad Ci En Gr Go.Deep
set_option linter.unusedVariables false
attribute [local go_sem] Oper.semAt_some
/-- What the iterator may do to the world that the caller's invariant speaks of: new blocks alone. -/
theorem abide {β : Type} {B : Nat} {J : β → World → Prop} (h : AbidesFrom B J) {s : β} {a b : World} (hs : J s a) (k : Below a.heap.size a b) : J s b :=
  h s a b none hs ⟨k.os, k.tape, k.output, k.size, fun i hi _ => k.block i hi⟩ (fun r e => by cases e)
set_option maxHeartbeats 8000000 in
theorem groups1_in (F : Fence) (hF : F = Fence.wide) (n : Nat) (hn : 1 ≤ n) (l B1 B2 : Nat) (vp vb : Value) (L : List Pe.Pr) (b : List Ey) (w : World) (hP : Peers w vp L) (hE : Books w vb b) (hl : L.length ≤ 1000000) (hbl : b.length ≤ 1000000)
    (hok : ∀ x ∈ L, x.ok) (hyo : ∀ y ∈ b, y.ok) (hB1 : B1 < w.heap.size) (hB2 : B2 < w.heap.size) (hc1 : w.cell? ⟨B1, 0, none⟩ = some vp) (hc2 : w.cell? ⟨B2, 0, none⟩ = some vb) (J Jx : List Net → World → Prop) (W : World) (hW : Below w.heap.size w W) (hJ : AbidesFrom W.heap.size J)
    (hY : ∀ pre x W1, J pre W1 → pre.length < (takL L b).length → YieldAt F (n - 1) Try.prog l #[.agg #[.bool x.a.v6, .int .u64 x.a.hi, .int .u64 x.a.lo, .int .i64 x.n]] W1 fun e W' =>
      (e = .returned (.bool true) ∧ J (pre ++ [x]) W' ∧ Below w.heap.size W1 W') ∨ (e = .returned (.bool false) ∧ Jx (pre ++ [x]) W'))
    (h0 : J [] W) :
    CallsIn F n Try.prog 24 #[.func (.yield l) #[] #[], .pointer (some ⟨B1, 0, none⟩), .pointer (some ⟨B2, 0, none⟩)] W fun e W' => (∃ v, e = .returned v) ∧
      ((∃ xs, xs = takL L b ∧ J xs W') ∨ (∃ pre, pre <+: takL L b ∧ Jx pre W')) := by
  have hfn : ∀ f, F.fn f := fun f => by rw [hF]; trivial
  have hro : F.round = none := by rw [hF]; rfl
  have KG : Hid (∀ (m : Nat) (a : Adr) (V : World), a.ok → CallsIn F m Try.prog 19 #[.agg #[.bool a.v6, .int .u64 a.hi, .int .u64 a.lo]] V fun e w' => e = .returned (.agg #[.bool (groupN a).a.v6, .int .u64 (groupN a).a.hi, .int .u64 (groupN a).a.lo, .int .i64 (groupN a).n]) ∧ Below V.heap.size V w') := Lib.hid fun m a V ha => by rw [hF]; exact callsIn_wide.2 (groupOf_any a V ha)
  clear hF
  have HJ := Lib.hid fun (s : List Net) (a c : World) (hs : J s a) (k : Below a.heap.size a c) => abide hJ hs k
  have HY := Lib.hid hY
  have HC2 := Lib.hid (show (∀ V, Below w.heap.size w V → V.cell? ⟨B2, 0, none⟩ = some vb) from fun V k => (k.cell (p := ⟨B2, 0, none⟩) hB2).trans hc2)
  have HOL := Lib.hid hok
  have HOB := Lib.hid hyo
  have HS := Lib.hid (show ∀ V : World, Below w.heap.size w V → w.heap.size ≤ V.heap.size from fun V k => k.size)
  have HW := Lib.hid hW
  have H0 := Lib.hid h0
  have c1 := (hW.cell (p := ⟨B1, 0, none⟩) hB1).trans hc1
  have PB := Lib.hid hE
  obtain ⟨A, cap, rfl, hcap, hnil, hcell⟩ := hP
  have HC := Lib.hid hcell
  obtain ⟨nl, hnl⟩ : ∃ m, m = L.length := ⟨_, rfl⟩
  rw [← hnl] at hl hcap c1
  have HNL := Lib.hid hnl
  clear hY hJ hok hyo hW h0 hE hc1 hc2 hcell hnl hnil
  refine callsIn_of_wp Try.func24 rfl (hfn _) ?_ hro
  simp only [Try.ntmps24, List.size_toArray, List.length_cons, List.length_nil, Nat.reduceAdd, Nat.reduceSub, Array.replicate_succ, Array.replicate_zero, List.push_toArray, List.append_toArray, List.nil_append, List.cons_append]
  gi_wp2_with fail
  gi_loopw [10] (fun vi wr => ∃ i : Nat, vi = .int .i64 i ∧ i ≤ nl ∧ Hid (J (outL (L.take i)) wr) ∧ Hid (Below w.heap.size w wr)) (fun vi _ => nl - (intOf vi).toNat)
  case atStart => exact ⟨0, rfl, Nat.zero_le _, Lib.hid (by simpa [outL] using H0.out), HW⟩
  case round =>
    obtain ⟨i, rfl, hi, HJi, HLi⟩ := hrel
    by_cases hlt : i < nl
    · have hiz : (i : Int) < (nl : Int) := by omega
      have hiL : i < L.length := by have := HNL.out; omega
      obtain ⟨bb, oo, rfl, hb, hcc⟩ := HC.out (by omega)
      obtain ⟨x, hx⟩ : ∃ x, x = L[i]! := ⟨_, rfl⟩
      have c0 : wr.cell? ⟨bb, oo + i * 10, none⟩ = some (.bool x.e.a.v6) := peer_at HLi.out hb hcc hiL (j := 0) (by rw [← hx]; rfl)
      have c1 : wr.cell? ⟨bb, oo + i * 10 + 1, none⟩ = some (.int .u64 x.e.a.hi) := peer_at HLi.out hb hcc hiL (j := 1) (by rw [← hx]; rfl)
      have c2 : wr.cell? ⟨bb, oo + i * 10 + 2, none⟩ = some (.int .u64 x.e.a.lo) := peer_at HLi.out hb hcc hiL (j := 2) (by rw [← hx]; rfl)
      have c3 : wr.cell? ⟨bb, oo + i * 10 + 3, none⟩ = some (.int .i64 x.e.n) := peer_at HLi.out hb hcc hiL (j := 3) (by rw [← hx]; rfl)
      have c4 : wr.cell? ⟨bb, oo + i * 10 + 4, none⟩ = some (.bool x.i) := peer_at HLi.out hb hcc hiL (j := 4) (by rw [← hx]; rfl)
      have c5 : wr.cell? ⟨bb, oo + i * 10 + 5, none⟩ = some (.int .i64 x.t) := peer_at HLi.out hb hcc hiL (j := 5) (by rw [← hx]; rfl)
      have c6 : wr.cell? ⟨bb, oo + i * 10 + 6, none⟩ = some (.int .i64 x.c.p) := peer_at HLi.out hb hcc hiL (j := 6) (by rw [← hx]; rfl)
      have c7 : wr.cell? ⟨bb, oo + i * 10 + 7, none⟩ = some (.int .i64 x.c.a) := peer_at HLi.out hb hcc hiL (j := 7) (by rw [← hx]; rfl)
      have c8 : wr.cell? ⟨bb, oo + i * 10 + 8, none⟩ = some (.int .i64 x.g) := peer_at HLi.out hb hcc hiL (j := 8) (by rw [← hx]; rfl)
      have c9 : wr.cell? ⟨bb, oo + i * 10 + 9, none⟩ = some (.int .i64 x.k) := peer_at HLi.out hb hcc hiL (j := 9) (by rw [← hx]; rfl)
      have HOK : Hid x.e.a.ok := Lib.hid (by rw [hx, getElem!_pos L i hiL]; exact (HOL.out _ (List.getElem_mem _)).1.1)
      have HX := Lib.hid (show x = L[i]! ∧ i < L.length from ⟨hx, hiL⟩)
      clear hx hiL hcc
      by_cases hin : x.i = false
      · have HYW : Hid (∀ w4, Below (wr.alloc (.cells #[.bool x.e.a.v6, .int .u64 x.e.a.hi, .int .u64 x.e.a.lo, .int .i64 x.e.n, .bool false, .int .i64 x.t, .int .i64 x.c.p, .int .i64 x.c.a, .int .i64 x.g, .int .i64 x.k] 50)).heap.size (wr.alloc (.cells #[.bool x.e.a.v6, .int .u64 x.e.a.hi, .int .u64 x.e.a.lo, .int .i64 x.e.n, .bool false, .int .i64 x.t, .int .i64 x.c.p, .int .i64 x.c.a, .int .i64 x.g, .int .i64 x.k] 50)) w4 → YieldAt F (n - 1) Try.prog l #[.agg #[.bool (groupN x.e.a).a.v6, .int .u64 (groupN x.e.a).a.hi, .int .u64 (groupN x.e.a).a.lo, .int .i64 (groupN x.e.a).n]] w4 fun e W' => (e = .returned (.bool true) ∧ J ((outL (L.take i)) ++ [groupN x.e.a]) W' ∧ Below w.heap.size w4 W') ∨ (e = .returned (.bool false) ∧ Jx ((outL (L.take i)) ++ [groupN x.e.a]) W')) := Lib.hid fun w4 hb4 => by
          refine HY.out _ _ _ (HJ.out _ _ _ (HJ.out _ _ _ HJi.out ?_) hb4) ?_
          · exact (Below.refl _ _).alloc (Nat.le_refl _) _
          · have h3 := (tak_out L b (i + 1)).length_le
            rw [out_out HX.out.2 (by rw [← HX.out.1]; exact hin)] at h3
            simp only [List.length_append, List.length_cons, List.length_nil] at h3 ⊢
            omega
        have HN : Hid ((outL (L.take (i + 1))) = (outL (L.take i)) ++ [groupN x.e.a]) := Lib.hid (by rw [out_out HX.out.2 (by rw [← HX.out.1]; exact hin), HX.out.1])
        have HPX : Hid ((outL (L.take i)) ++ [groupN x.e.a] <+: takL L b) := Lib.hid (by rw [← HN.out]; exact tak_out L b (i + 1))
        have HLA : Hid (Below w.heap.size w (wr.alloc (.cells #[.bool x.e.a.v6, .int .u64 x.e.a.hi, .int .u64 x.e.a.lo, .int .i64 x.e.n, .bool false, .int .i64 x.t, .int .i64 x.c.p, .int .i64 x.c.a, .int .i64 x.g, .int .i64 x.k] 50))) := Lib.hid (HLi.out.alloc HLi.out.size _)
        rw [hin] at c4
        clear hin
        gi_wp2_with (first | ((first | refine ⟨trivial, ?_⟩ | skip); gi_at_call 19; refine (KG.out _ _ _ HOK.out).mono ?_; rintro e w4 ⟨rfl, hb4⟩; have HB4 := Lib.hid hb4; clear hb4; obtain ⟨fn, tmps, assign, body, hy, hR⟩ := HYW.out w4 HB4.out) | fail)
        refine hR.mono ?_
        rintro e w5 (⟨rfl, hJ5, hk5⟩ | ⟨rfl, hJx5⟩)
        · have HJ5 := Lib.hid hJ5
          have HL5 : Hid (Below w.heap.size w w5) := Lib.hid (((HLA.out.trans (HB4.out.mono HLA.out.size)).trans hk5))
          clear hJ5 hk5 hy hR
          gi_wp2_with fail
          go_roundw
          case rel => exact ⟨i + 1, by go_num, by omega, Lib.hid (by rw [HN.out]; exact HJ5.out), HL5⟩
          case measure => simp [intOf]; omega
        · clear hy hR
          gi_wp2_with fail
          refine bodyPost_ret (results_none rfl _ _ _) rfl ?_
          exact ⟨⟨_, rfl⟩, .inr ⟨_, HPX.out, hJx5⟩⟩
      · have HN : Hid ((outL (L.take (i + 1))) = (outL (L.take i))) := Lib.hid (by rw [out_in HX.out.2 (by rw [← HX.out.1]; simpa using hin)])
        have HJn : Hid (J (outL (L.take (i + 1))) (wr.alloc (.cells #[.bool x.e.a.v6, .int .u64 x.e.a.hi, .int .u64 x.e.a.lo, .int .i64 x.e.n, .bool true, .int .i64 x.t, .int .i64 x.c.p, .int .i64 x.c.a, .int .i64 x.g, .int .i64 x.k] 50))) := Lib.hid (by rw [HN.out]; exact HJ.out _ _ _ HJi.out ((Below.refl _ _).alloc (Nat.le_refl _) _))
        have HLA : Hid (Below w.heap.size w (wr.alloc (.cells #[.bool x.e.a.v6, .int .u64 x.e.a.hi, .int .u64 x.e.a.lo, .int .i64 x.e.n, .bool true, .int .i64 x.t, .int .i64 x.c.p, .int .i64 x.c.a, .int .i64 x.g, .int .i64 x.k] 50))) := Lib.hid (HLi.out.alloc HLi.out.size _)
        have hin2 : x.i = true := by simpa using hin
        rw [hin2] at c4
        clear hin hin2
        gi_wp2_with fail
        go_roundw
        case rel => exact ⟨i + 1, by go_num, by omega, HJn, HLA⟩
        case measure => simp [intOf]; omega
    · have hiz : ¬ (i : Int) < (nl : Int) := by omega
      have HE : Hid (outL (L.take i) = outL L) := Lib.hid (by rw [List.take_of_length_le (by have := HNL.out; omega)])
      have HJ1 : Hid (J (outL L ++ flyL (b.take 0)) wr) := Lib.hid (by rw [← HE.out]; simpa [flyL] using HJi.out)
      obtain ⟨A2, cap2, e2, hcap2, hnil2, hcell2⟩ := PB.out
      have c2 := HC2.out wr HLi.out
      rw [e2] at c2
      have HC3 := Lib.hid hcell2
      obtain ⟨nb, hnb⟩ : ∃ m, m = b.length := ⟨_, rfl⟩
      rw [← hnb] at hbl hcap2 c2
      have HNB := Lib.hid hnb
      clear e2 hcell2 hnb hnil2
      gi_wp2_with fail
      gi_loopw [29] (fun vi wr => ∃ i : Nat, vi = .int .i64 i ∧ i ≤ nb ∧ Hid (J (outL L ++ flyL (b.take i)) wr) ∧ Hid (Below w.heap.size w wr)) (fun vi _ => nb - (intOf vi).toNat)
      case atStart => exact ⟨0, rfl, Nat.zero_le _, HJ1, HLi⟩
      case round =>
        obtain ⟨i, rfl, hi, HJi, HLi⟩ := hrel
        by_cases hlt : i < nb
        · have hiz : (i : Int) < (nb : Int) := by omega
          have hiL : i < b.length := by have := HNB.out; omega
          obtain ⟨bb, oo, rfl, hb, hcc⟩ := HC3.out (by omega)
          obtain ⟨x, hx⟩ : ∃ x, x = b[i]! := ⟨_, rfl⟩
          have c0 : wr.cell? ⟨bb, oo + i * 7, none⟩ = some (.bool x.e.a.v6) := entry_at HLi.out hb hcc hiL (j := 0) (by rw [← hx]; rfl)
          have c1 : wr.cell? ⟨bb, oo + i * 7 + 1, none⟩ = some (.int .u64 x.e.a.hi) := entry_at HLi.out hb hcc hiL (j := 1) (by rw [← hx]; rfl)
          have c2 : wr.cell? ⟨bb, oo + i * 7 + 2, none⟩ = some (.int .u64 x.e.a.lo) := entry_at HLi.out hb hcc hiL (j := 2) (by rw [← hx]; rfl)
          have c3 : wr.cell? ⟨bb, oo + i * 7 + 3, none⟩ = some (.int .i64 x.e.n) := entry_at HLi.out hb hcc hiL (j := 3) (by rw [← hx]; rfl)
          have c4 : wr.cell? ⟨bb, oo + i * 7 + 4, none⟩ = some (.int .i64 x.st) := entry_at HLi.out hb hcc hiL (j := 4) (by rw [← hx]; rfl)
          have c5 : wr.cell? ⟨bb, oo + i * 7 + 5, none⟩ = some (.int .i64 x.f) := entry_at HLi.out hb hcc hiL (j := 5) (by rw [← hx]; rfl)
          have c6 : wr.cell? ⟨bb, oo + i * 7 + 6, none⟩ = some (.int .i64 x.nx) := entry_at HLi.out hb hcc hiL (j := 6) (by rw [← hx]; rfl)
          have HOK : Hid x.e.a.ok := Lib.hid (by rw [hx, getElem!_pos b i hiL]; exact (HOB.out _ (List.getElem_mem _)).he.1)
          have HX := Lib.hid (show x = b[i]! ∧ i < b.length from ⟨hx, hiL⟩)
          clear hx hiL hcc
          by_cases hin : x.st = 2
          · have HYW : Hid (∀ w4, Below (wr.alloc (.cells #[.bool x.e.a.v6, .int .u64 x.e.a.hi, .int .u64 x.e.a.lo, .int .i64 x.e.n, .int .i64 2, .int .i64 x.f, .int .i64 x.nx] 36)).heap.size (wr.alloc (.cells #[.bool x.e.a.v6, .int .u64 x.e.a.hi, .int .u64 x.e.a.lo, .int .i64 x.e.n, .int .i64 2, .int .i64 x.f, .int .i64 x.nx] 36)) w4 → YieldAt F (n - 1) Try.prog l #[.agg #[.bool (groupN x.e.a).a.v6, .int .u64 (groupN x.e.a).a.hi, .int .u64 (groupN x.e.a).a.lo, .int .i64 (groupN x.e.a).n]] w4 fun e W' => (e = .returned (.bool true) ∧ J ((outL L ++ flyL (b.take i)) ++ [groupN x.e.a]) W' ∧ Below w.heap.size w4 W') ∨ (e = .returned (.bool false) ∧ Jx ((outL L ++ flyL (b.take i)) ++ [groupN x.e.a]) W')) := Lib.hid fun w4 hb4 => by
              refine HY.out _ _ _ (HJ.out _ _ _ (HJ.out _ _ _ HJi.out ?_) hb4) ?_
              · exact (Below.refl _ _).alloc (Nat.le_refl _) _
              · have h3 := (tak_fly L b (i + 1)).length_le
                rw [fly_yes HX.out.2 (by rw [← HX.out.1]; exact hin)] at h3
                simp only [List.length_append, List.length_cons, List.length_nil] at h3 ⊢
                omega
            have HN : Hid ((outL L ++ flyL (b.take (i + 1))) = (outL L ++ flyL (b.take i)) ++ [groupN x.e.a]) := Lib.hid (by rw [fly_yes HX.out.2 (by rw [← HX.out.1]; exact hin), HX.out.1, List.append_assoc])
            have HPX : Hid ((outL L ++ flyL (b.take i)) ++ [groupN x.e.a] <+: takL L b) := Lib.hid (by rw [← HN.out]; exact tak_fly L b (i + 1))
            have HLA : Hid (Below w.heap.size w (wr.alloc (.cells #[.bool x.e.a.v6, .int .u64 x.e.a.hi, .int .u64 x.e.a.lo, .int .i64 x.e.n, .int .i64 2, .int .i64 x.f, .int .i64 x.nx] 36))) := Lib.hid (HLi.out.alloc HLi.out.size _)
            rw [hin] at c4
            clear hin
            gi_wp2_with (first | ((first | refine ⟨trivial, ?_⟩ | skip); gi_at_call 19; refine (KG.out _ _ _ HOK.out).mono ?_; rintro e w4 ⟨rfl, hb4⟩; have HB4 := Lib.hid hb4; clear hb4; obtain ⟨fn, tmps, assign, body, hy, hR⟩ := HYW.out w4 HB4.out) | fail)
            refine hR.mono ?_
            rintro e w5 (⟨rfl, hJ5, hk5⟩ | ⟨rfl, hJx5⟩)
            · have HJ5 := Lib.hid hJ5
              have HL5 : Hid (Below w.heap.size w w5) := Lib.hid (((HLA.out.trans (HB4.out.mono HLA.out.size)).trans hk5))
              clear hJ5 hk5 hy hR
              gi_wp2_with fail
              go_roundw
              case rel => exact ⟨i + 1, by go_num, by omega, Lib.hid (by rw [HN.out]; exact HJ5.out), HL5⟩
              case measure => simp [intOf]; omega
            · clear hy hR
              gi_wp2_with fail
              refine bodyPost_ret (results_none rfl _ _ _) rfl ?_
              exact ⟨⟨_, rfl⟩, .inr ⟨_, HPX.out, hJx5⟩⟩
          · have HN : Hid ((outL L ++ flyL (b.take (i + 1))) = (outL L ++ flyL (b.take i))) := Lib.hid (by rw [fly_no HX.out.2 (by rw [← HX.out.1]; exact hin)])
            have HJn : Hid (J (outL L ++ flyL (b.take (i + 1))) (wr.alloc (.cells #[.bool x.e.a.v6, .int .u64 x.e.a.hi, .int .u64 x.e.a.lo, .int .i64 x.e.n, .int .i64 x.st, .int .i64 x.f, .int .i64 x.nx] 36))) := Lib.hid (by rw [HN.out]; exact HJ.out _ _ _ HJi.out ((Below.refl _ _).alloc (Nat.le_refl _) _))
            have HLA : Hid (Below w.heap.size w (wr.alloc (.cells #[.bool x.e.a.v6, .int .u64 x.e.a.hi, .int .u64 x.e.a.lo, .int .i64 x.e.n, .int .i64 x.st, .int .i64 x.f, .int .i64 x.nx] 36))) := Lib.hid (HLi.out.alloc HLi.out.size _)
            have hin2 : (x.st == 2) = false := by simpa using hin
            gi_wp2_with fail
            go_roundw
            case rel => exact ⟨i + 1, by go_num, by omega, HJn, HLA⟩
            case measure => simp [intOf]; omega
        · have hiz : ¬ (i : Int) < (nb : Int) := by omega
          have HE : Hid (outL L ++ flyL (b.take i) = takL L b) := Lib.hid (by rw [List.take_of_length_le (by have := HNB.out; omega)]; rfl)
          gi_wp2_with fail
          go_end0
          exact ⟨⟨_, rfl⟩, .inl (by rw [← HE.out]; exact HJi.out)⟩
end Go.Proofs.Ytbonfmjalgfgaaa.Sp
