/- The second statement of layer 11: what was told of a tree stays, whatever is made of it; for all acts. -/
import Derived.Test.YtgnpnmdndlodlaaTrieAll
namespace Go.Proofs.Ytgnpnmdndlodlaa.Tr
set_option maxRecDepth 100000
open Go.ChangeShapes Go.WideShapes Go.ChangeAt Go.RowKit
open Dec Words V4 V6 Ad Ci
set_option linter.unusedVariables false
theorem acts_at {wr w : World} {la : List Act} {b off : Nat} (hlow : Below w.heap.size w wr) (hb : b < w.heap.size) (hcc : ∀ i (h : i < la.length) j u, (encA la[i])[j]? = some u → w.cell? ⟨b, off + i * 6 + j, none⟩ = some u) {k : Nat} (hlt : k < la.length) :
    wr.cell? ⟨b, off + k * 6, none⟩ = some (.int .i64 la[k].kind) ∧ wr.cell? ⟨b, off + k * 6 + 1, none⟩ = some (.bool la[k].n.a.v6) ∧ wr.cell? ⟨b, off + k * 6 + 2, none⟩ = some (.int .u64 la[k].n.a.hi) ∧ wr.cell? ⟨b, off + k * 6 + 3, none⟩ = some (.int .u64 la[k].n.a.lo) ∧ wr.cell? ⟨b, off + k * 6 + 4, none⟩ = some (.int .i64 la[k].n.n) ∧ wr.cell? ⟨b, off + k * 6 + 5, none⟩ = some (.int .i64 la[k].v) :=
  act_cells (fun i h j u hu => (hlow.cell (p := ⟨b, off + i * 6 + j, none⟩) hb).trans (hcc i h j u hu)) hlt
set_option maxHeartbeats 4000000 in
theorem stays_long (T : TrieApi) (w : World) (v vm : Value) (la lm : List Act) (h : Acts w v la) (hm : Acts w vm lm) (hl : 60 < la.length ∨ 60 < lm.length) :
    Calls Try.prog 4 #[v, vm] w fun e w' => e = .returned (.bool true) ∧ Below w.heap.size w w' := by
  have hq : (60 : Int) < (la.length : Int) ∨ ((la.length : Int) ≤ 60 ∧ (60 : Int) < (lm.length : Int)) := by omega
  obtain ⟨A, c, rfl, _, _, _⟩ := h
  obtain ⟨A2, c2, rfl, _, _, _⟩ := hm
  have T2 := Lib.hid (awake11_any T)
  clear hl
  rcases hq with hd | ⟨hd1, hd2⟩
  · go_enter Try.func4, Try.ntmps4
    go_wp2_with fail
    (with_reducible refine (T2.out _).mono ?_)
    rintro e w1 ⟨rfl, hb⟩
    have HB := Lib.hid hb
    clear hb
    go_wp2_with fail
    go_ret
    exact ⟨rfl, HB.out⟩
  · go_enter Try.func4, Try.ntmps4
    go_wp2_with fail
    (with_reducible refine (T2.out _).mono ?_)
    rintro e w1 ⟨rfl, hb⟩
    have HB := Lib.hid hb
    clear hb
    go_wp2_with fail
    go_ret
    exact ⟨rfl, HB.out⟩
set_option maxHeartbeats 16000000 in
theorem stays_short (T : TrieApi) (w : World) (v vm : Value) (la lm : List Act) (h : Acts w v la) (hm : Acts w vm lm) (hok : ∀ x ∈ la, x.ok) (hokm : ∀ x ∈ lm, x.ok) (hl : la.length ≤ 60) (hlm : lm.length ≤ 60) :
    Calls Try.prog 4 #[v, vm] w fun e w' => e = .returned (.bool true) ∧ Below w.heap.size w w' := by
  obtain ⟨A, c, rfl, hc, _, hcell⟩ := h
  obtain ⟨A2, c2, rfl, hc2, _, hcell2⟩ := hm
  have HC := Lib.hid hcell
  have HC2 := Lib.hid hcell2
  have hokH := Lib.hid hok
  have hokM := Lib.hid hokm
  have T2 := Lib.hid (awake11_any T)
  have NW := Lib.hid (T.new w)
  have hd : (la.length : Int) ≤ 60 := by omega
  have hd2 : (lm.length : Int) ≤ 60 := by omega
  clear hcell hcell2 hok hokm
  go_enter Try.func4, Try.ntmps4
  go_wp2_with fail
  (with_reducible refine NW.out.mono ?_)
  rintro e w1 ⟨t0, rfl, ht0, hb1⟩
  have HT0 := Lib.hid ht0
  have HB1 := Lib.hid hb1
  clear ht0 hb1 NW
  go_wp2_with fail
  go_loopw [5, 6] (fun t i wr => ∃ k : Nat, k ≤ la.length ∧ i = .int .i64 k ∧ Hid (T.Is wr t (play [] (la.take k))) ∧ Below w.heap.size w wr) (fun _ i _ => la.length - (intOf i).toNat)
  case atStart => exact ⟨0, Nat.zero_le _, rfl, HT0, HB1.out⟩
  case round =>
    obtain ⟨k, hk, rfl, HI, hs⟩ := hrel
    have hpl := play_len la k (by omega)
    by_cases hlt : k < la.length
    · obtain ⟨b, off, rfl, hb, hcc⟩ := HC.out (by omega)
      obtain ⟨q0, q1, q2, q3, q4, q5⟩ := acts_at hs hb hcc hlt
      have hxo : (la[k]).ok := hokH.out la[k] (List.getElem_mem hlt)
      have DO := Lib.hid (does_any T u5 (play [] (la.take k)) la[k] wr HI.out (by omega) hxo)
      have HPS := Lib.hid (play_snoc [] la k hlt)
      clear hcc hxo
      go_wp2_with fail
      (with_reducible refine DO.out.mono ?_)
      rintro e w2 ⟨t', rfl, hi2, hb2⟩
      have F1 : Hid (T.Is w2 t' (play [] (la.take (k + 1)))) := Lib.hid (by rw [HPS.out]; exact hi2)
      have F2 := Lib.hid (low_trans hs hb2)
      clear hi2 hb2
      go_wp2_with fail
      go_roundw
      case rel => exact ⟨k + 1, by omega, by go_num, F1, F2.out⟩
      case measure => simp [intOf]; omega
    · obtain ⟨L, hL⟩ : ∃ L, L = play [] (la.take k) := ⟨_, rfl⟩
      rw [← hL] at HI hpl
      have HBS := Lib.hid hs
      have hLl : L.length ≤ 60 := by omega
      have AL := Lib.hid (T.all u5 L wr HI.out (by omega))
      clear hL hpl hs
      go_wp2_with fail
      (with_reducible refine AL.out.mono ?_)
      rintro e w2 ⟨was, rfl, hwas, hb2⟩
      have HI2 := Lib.hid (T.below HI.out hb2)
      have LE := Lib.hid (T.len u5 L w2 HI2.out (by omega))
      have HWS := Lib.hid hwas
      have HB2 := Lib.hid (low_trans HBS.out hb2)
      clear hwas hb2
      go_wp2_with fail
      (with_reducible refine LE.out.mono ?_)
      rintro e w3 ⟨rfl, hb3⟩
      have HI3 := Lib.hid (T.below HI2.out hb3)
      have HW3 := Lib.hid (HWS.out.below hb3)
      have HB3 := Lib.hid (low_trans HB2.out hb3)
      obtain ⟨t, htu⟩ : ∃ t, t = u5 := ⟨_, rfl⟩
      clear hb3 HBS HB2 HI2 HI
      subst htu
      obtain ⟨wq, hwq⟩ : ∃ W, W = wr := ⟨_, rfl⟩
      subst hwq
      go_wp2_with fail
      go_loopw [9, 10] (fun x i wr => ∃ k : Nat, k ≤ lm.length ∧ i = .int .i64 k ∧ (∃ Lx : List Hit, Hid (T.Is wr x Lx) ∧ Hid (Lx.length ≤ 60 + k)) ∧ Stays w3 wr) (fun _ i _ => lm.length - (intOf i).toNat)
      case atStart => exact ⟨0, Nat.zero_le _, rfl, ⟨L, HI3, Lib.hid hLl⟩, Below.refl _ _⟩
      case round =>
        obtain ⟨k, hk, rfl, ⟨Lx, HI, HLx⟩, hs⟩ := hrel
        by_cases hlt : k < lm.length
        · obtain ⟨b, off, rfl, hb, hcc⟩ := HC2.out (by omega)
          obtain ⟨q0, q1, q2, q3, q4, q5⟩ := acts_at (low_trans HB3.out hs) hb hcc hlt
          have hxo : (lm[k]).ok := hokM.out lm[k] (List.getElem_mem hlt)
          have DO := Lib.hid (does_any T u9 Lx lm[k] wr HI.out (by have := HLx.out; omega) hxo)
          have DO2 := Lib.hid (fun W hW => does_any T t L lm[k] W (T.below HI3.out hW) (by omega) hxo)
          have HLn := Lib.hid (doA_len Lx lm[k])
          have hlow := Lib.hid (low_trans HB3.out hs)
          clear hxo
          go_wp2_with fail
          (with_reducible refine DO.out.mono ?_)
          rintro e w4 ⟨x', rfl, hi2, hb2⟩
          have F1 := Lib.hid hi2
          have hs4 := Lib.hid (low_trans hs hb2)
          have H4 := Lib.hid (acts_at (low_trans hlow.out hb2) hb hcc hlt)
          clear q0 q1 q2 q3 q4 q5 hi2 hb2
          obtain ⟨q0, q1, q2, q3, q4, q5⟩ := H4.out
          clear hcc
          go_wp2_with fail
          (with_reducible refine (DO2.out _ hs4.out).mono ?_)
          rintro e w5 ⟨y, rfl, _, hb5⟩
          have F2 := Lib.hid (T.below F1.out hb5)
          have F3 := Lib.hid (low_trans hs4.out hb5)
          have F4 : Hid ((doA Lx lm[k]).length ≤ 60 + (k + 1)) := Lib.hid (by have := HLn.out; have := HLx.out; omega)
          clear hb5
          go_wp2_with fail
          go_roundw
          case rel => exact ⟨k + 1, by omega, by go_num, ⟨_, F2, F4⟩, F3.out⟩
          case measure => simp [intOf]; omega
        · have HI4 := T.below HI3.out hs
          have AL2 := Lib.hid (T.all t L wr HI4 (by omega))
          have HW4 := Lib.hid (HW3.out.below hs)
          have HB4 := Lib.hid (low_trans HB3.out hs)
          have HI4' := Lib.hid HI4
          clear HI4 HI HLx
          go_wp2_with fail
          (with_reducible refine AL2.out.mono ?_)
          rintro e w6 ⟨now, rfl, hnow0, hb6⟩
          have LE2 := Lib.hid (T.len t L w6 (T.below HI4'.out hb6) (by omega))
          have HW6 := Lib.hid (HW4.out.below hb6)
          have HN6 := Lib.hid hnow0
          have HB6 := Lib.hid (low_trans HB4.out hb6)
          obtain ⟨An, cn, rfl, hn2, _, _⟩ := id hnow0
          obtain ⟨Aw, cw, rfl, hw2, _, _⟩ := id HW6.out
          have e1 : (((L.length : Nat) : Int) != ((L.length : Nat) : Int)) = false := by simp
          clear hnow0 hb6 hs
          go_wp2_with fail
          (with_reducible refine LE2.out.mono ?_)
          rintro e wB ⟨rfl, hb7⟩
          have hnow := HN6.out.below hb7
          have hwas := HW6.out.below hb7
          have HBB := Lib.hid (low_trans HB6.out hb7)
          obtain ⟨_, _, en, _, _, hncell⟩ := hnow
          obtain ⟨_, _, ew, _, _, hwcell⟩ := hwas
          simp only [Value.slice.injEq, true_and] at en ew
          obtain ⟨rfl, rfl⟩ := en
          obtain ⟨rfl, rfl⟩ := ew
          have HA := Lib.hid hncell
          have HW := Lib.hid hwcell
          have NQ := Lib.hid (fun (k : Nat) (hk : k < L.length) W => neqHit L[k] L[k] W)
          obtain ⟨wv, hwv⟩ : ∃ W, W = wr := ⟨_, rfl⟩
          clear hncell hwcell hb7
          subst hwv
          go_wp2_with fail
          go_loopw [12] (fun i wr => ∃ k : Nat, k ≤ L.length ∧ i = .int .i64 k ∧ Stays wB wr) (fun i _ => L.length - (intOf i).toNat)
          case atStart => exact ⟨0, Nat.zero_le _, rfl, Below.refl _ _⟩
          case round =>
            obtain ⟨k, hk, rfl, hs⟩ := hrel
            by_cases hlt : k < L.length
            · obtain ⟨b, o, rfl, hb, hcc⟩ := HA.out (by omega)
              obtain ⟨b', o', rfl, hb', hcc'⟩ := HW.out (by omega)
              obtain ⟨c0, c1, c2, c3, c4⟩ := hit_cells (fun i h j u hu => (hs.cell (p := ⟨b, o + i * 5 + j, none⟩) hb).trans (hcc i h j u hu)) hlt
              obtain ⟨d0, d1, d2, d3, d4⟩ := hit_cells (fun i h j u hu => (hs.cell (p := ⟨b', o' + i * 5 + j, none⟩) hb').trans (hcc' i h j u hu)) hlt
              have N1 := NQ.out k hlt
              have hsm := sameH_self L[k]
              simp only [hsm, Bool.not_true] at N1
              clear hcc hcc' hsm
              have hb3 : b < wr.heap.size := Nat.lt_of_lt_of_le hb hs.size
              have hb4 : b' < wr.heap.size := Nat.lt_of_lt_of_le hb' hs.size
              go_wp2_with fail
              have hne : Nonempty (Cls (Stays wr)) := ⟨⟨wr, Below.refl _ _⟩⟩
              have f0 : ∀ q : Cls (Stays wr), q.w.cell? ⟨b, o + k * 5, none⟩ = some (.bool L[k].n.a.v6) := fun q => (Below.cell (p := ⟨b, o + k * 5, none⟩) q.h hb3).trans c0
              have f1 : ∀ q : Cls (Stays wr), q.w.cell? ⟨b, o + k * 5 + 1, none⟩ = some (.int .u64 L[k].n.a.hi) := fun q => (Below.cell (p := ⟨b, o + k * 5 + 1, none⟩) q.h hb3).trans c1
              have f2 : ∀ q : Cls (Stays wr), q.w.cell? ⟨b, o + k * 5 + 2, none⟩ = some (.int .u64 L[k].n.a.lo) := fun q => (Below.cell (p := ⟨b, o + k * 5 + 2, none⟩) q.h hb3).trans c2
              have f3 : ∀ q : Cls (Stays wr), q.w.cell? ⟨b, o + k * 5 + 3, none⟩ = some (.int .i64 L[k].n.n) := fun q => (Below.cell (p := ⟨b, o + k * 5 + 3, none⟩) q.h hb3).trans c3
              have f4 : ∀ q : Cls (Stays wr), q.w.cell? ⟨b, o + k * 5 + 4, none⟩ = some (.int .i64 L[k].v) := fun q => (Below.cell (p := ⟨b, o + k * 5 + 4, none⟩) q.h hb3).trans c4
              have f5 : ∀ q : Cls (Stays wr), q.w.cell? ⟨b', o' + k * 5, none⟩ = some (.bool L[k].n.a.v6) := fun q => (Below.cell (p := ⟨b', o' + k * 5, none⟩) q.h hb4).trans d0
              have f6 : ∀ q : Cls (Stays wr), q.w.cell? ⟨b', o' + k * 5 + 1, none⟩ = some (.int .u64 L[k].n.a.hi) := fun q => (Below.cell (p := ⟨b', o' + k * 5 + 1, none⟩) q.h hb4).trans d1
              have f7 : ∀ q : Cls (Stays wr), q.w.cell? ⟨b', o' + k * 5 + 2, none⟩ = some (.int .u64 L[k].n.a.lo) := fun q => (Below.cell (p := ⟨b', o' + k * 5 + 2, none⟩) q.h hb4).trans d2
              have f8 : ∀ q : Cls (Stays wr), q.w.cell? ⟨b', o' + k * 5 + 3, none⟩ = some (.int .i64 L[k].n.n) := fun q => (Below.cell (p := ⟨b', o' + k * 5 + 3, none⟩) q.h hb4).trans d3
              have f9 : ∀ q : Cls (Stays wr), q.w.cell? ⟨b', o' + k * 5 + 4, none⟩ = some (.int .i64 L[k].v) := fun q => (Below.cell (p := ⟨b', o' + k * 5 + 4, none⟩) q.h hb4).trans d4
              refine Cls.region (Stays wr) (by kernel_rfl) (by kernel_rfl) (low_drewN (Below.refl _ _) 1) ?_
              repeat (go_big_quiet_step (first | fail))
              refine wpQuiet_nil ?_
              intro n9
              have hs9 := n9.h
              generalize n9.w = w9 at hs9 ⊢
              clear hne n9 f0 f1 f2 f3 f4 f5 f6 f7 f8 f9
              have HB9 := Lib.hid (low_trans hs hs9)
              go_wp2_with fail
              go_roundw
              case rel => exact ⟨k + 1, by omega, by go_num, HB9.out⟩
              case measure => simp [intOf]; omega
            · go_wp2_with fail
              (with_reducible refine (T2.out _).mono ?_)
              rintro e w9 ⟨rfl, hb⟩
              have HB9 := Lib.hid (low_trans HBB.out (low_trans hs hb))
              clear hb
              go_wp2_with fail
              go_ret
              exact ⟨rfl, HB9.out⟩
theorem stays_walk (T : TrieApi) (w : World) (v vm : Value) (la lm : List Act) (h : Acts w v la) (hm : Acts w vm lm) (hok : ∀ x ∈ la, x.ok) (hokm : ∀ x ∈ lm, x.ok) :
    Calls Try.prog 4 #[v, vm] w fun e w' => e = .returned (.bool true) ∧ Below w.heap.size w w' := by
  by_cases hl : la.length ≤ 60 ∧ lm.length ≤ 60
  · exact stays_short T w v vm la lm h hm hok hokm hl.1 hl.2
  · exact stays_long T w v vm la lm h hm (by omega)
end Go.Proofs.Ytgnpnmdndlodlaa.Tr
