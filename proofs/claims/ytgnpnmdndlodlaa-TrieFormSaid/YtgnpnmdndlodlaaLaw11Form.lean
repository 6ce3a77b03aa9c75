/- The third statement of layer 11: the order in which subnets were put in is not to be seen; for all subnets and numbers. -/
import Derived.Test.YtgnpnmdndlodlaaTrieAll
import Derived.Test.YtgnpnmdndlodlaaLaw11Stays
namespace Go.Proofs.Ytgnpnmdndlodlaa.Tr
set_option maxRecDepth 100000
open Go.ChangeShapes Go.WideShapes Go.ChangeAt Go.RowKit
open Dec Words V4 V6 Ad Ci
set_option linter.unusedVariables false
abbrev P5 (x : Act) (b o : Nat) (wr w' : World) : Prop := w'.cell? ⟨b, o + 1, none⟩ = some (.bool x.n.a.v6) ∧ w'.cell? ⟨b, o + 2, none⟩ = some (.int .u64 x.n.a.hi) ∧ w'.cell? ⟨b, o + 3, none⟩ = some (.int .u64 x.n.a.lo) ∧ w'.cell? ⟨b, o + 4, none⟩ = some (.int .i64 x.n.n) ∧ w'.cell? ⟨b, o + 5, none⟩ = some (.int .i64 x.v) ∧ Stays wr w'
theorem P5.of {x : Act} {b o : Nat} {wr w1 : World} (h : wr.cell? ⟨b, o + 1, none⟩ = some (.bool x.n.a.v6) ∧ wr.cell? ⟨b, o + 2, none⟩ = some (.int .u64 x.n.a.hi) ∧ wr.cell? ⟨b, o + 3, none⟩ = some (.int .u64 x.n.a.lo) ∧ wr.cell? ⟨b, o + 4, none⟩ = some (.int .i64 x.n.n) ∧ wr.cell? ⟨b, o + 5, none⟩ = some (.int .i64 x.v)) (hb : b < wr.heap.size) (k : Stays wr w1) : P5 x b o wr w1 :=
  ⟨(Below.cell (p := ⟨b, o + 1, none⟩) k hb).trans h.1, (Below.cell (p := ⟨b, o + 2, none⟩) k hb).trans h.2.1, (Below.cell (p := ⟨b, o + 3, none⟩) k hb).trans h.2.2.1, (Below.cell (p := ⟨b, o + 4, none⟩) k hb).trans h.2.2.2.1, (Below.cell (p := ⟨b, o + 5, none⟩) k hb).trans h.2.2.2.2, k⟩
set_option maxHeartbeats 4000000 in
theorem form_out (T : TrieApi) (w : World) (v : Value) (la : List Act) (m : Int) (h : Acts w v la) (hl : 60 < la.length ∨ la.length = 0) :
    Calls Try.prog 5 #[v, .int .i64 m] w fun e w' => e = .returned (.bool true) ∧ Below w.heap.size w w' := by
  have hq : ((60 : Int) < (la.length : Int)) ∨ ((la.length : Int) ≤ 60 ∧ (((la.length : Nat) : Int) == 0) = true) := by
    rcases hl with h | h
    · exact Or.inl (by omega)
    · exact Or.inr ⟨by omega, by simp [h]⟩
  obtain ⟨A, c, rfl, _, _, _⟩ := h
  have T2 := Lib.hid (awake11_any T)
  clear hl
  rcases hq with hd | ⟨hd1, hd2⟩
  · go_enter Try.func5, Try.ntmps5
    go_wp2_with fail
    (with_reducible refine (T2.out _).mono ?_)
    rintro e w1 ⟨rfl, hb⟩
    have HB := Lib.hid hb
    clear hb
    go_wp2_with fail
    go_ret
    exact ⟨rfl, HB.out⟩
  · go_enter Try.func5, Try.ntmps5
    go_wp2_with fail
    (with_reducible refine (T2.out _).mono ?_)
    rintro e w1 ⟨rfl, hb⟩
    have HB := Lib.hid hb
    clear hb
    go_wp2_with fail
    go_ret
    exact ⟨rfl, HB.out⟩
set_option maxHeartbeats 16000000 in
theorem form_in (T : TrieApi) (w : World) (v : Value) (la : List Act) (m : Int) (h : Acts w v la) (hok : ∀ x ∈ la, x.ok) (hl : la.length ≤ 60) (hpos : 0 < la.length) (hm1 : -9223372036854775808 ≤ m) (hm2 : m ≤ 9223372036854775807) :
    Calls Try.prog 5 #[v, .int .i64 m] w fun e w' => e = .returned (.bool true) ∧ Below w.heap.size w w' := by
  obtain ⟨A, c, rfl, hc, _, hcell⟩ := h
  obtain ⟨b, off, rfl, hb, hcc⟩ := hcell hpos
  have HC := Lib.hid hcc
  have hokH := Lib.hid hok
  have T2 := Lib.hid (awake11_any T)
  have NW := Lib.hid (fun W => T.new W)
  have hd : (la.length : Int) ≤ 60 := by omega
  have hd0 : (((la.length : Nat) : Int) == 0) = false := by rw [beq_eq_false_iff_ne]; omega
  have hdp : (0 : Int) < (la.length : Int) := by omega
  clear hcell hok hcc
  go_enter Try.func5, Try.ntmps5
  go_wp2_with fail
  go_loopw [5] (fun i wr => ∃ k : Nat, k ≤ la.length ∧ i = .int .i64 k ∧ Hid (∀ p q (hp : p < la.length) (hq : q < la.length), q < p → p < k → la[q].n ≠ la[p].n) ∧ Below w.heap.size w wr) (fun i _ => la.length - (intOf i).toNat)
  case atStart => exact ⟨0, Nat.zero_le _, rfl, Lib.hid (fun p q _ _ _ h => absurd h (Nat.not_lt_zero _)), Below.refl _ _⟩
  case round =>
    obtain ⟨i, hi, rfl, HD, hs⟩ := hrel
    by_cases hlt : i < la.length
    · obtain ⟨wq, hwq⟩ : ∃ W, W = wr := ⟨_, rfl⟩
      subst hwq
      have HS := Lib.hid hs
      clear hs
      go_wp2_with fail
      go_loopw [6] (fun j wr => ∃ k : Nat, k ≤ i ∧ j = .int .i64 k ∧ Hid (∀ q (hq : q < la.length), q < k → la[q].n ≠ la[i].n) ∧ Below w.heap.size w wr) (fun j _ => i - (intOf j).toNat)
      case atStart => exact ⟨0, Nat.zero_le _, rfl, Lib.hid (fun q _ h => absurd h (Nat.not_lt_zero _)), HS.out⟩
      case round =>
        obtain ⟨k, hk, rfl, HK, hs⟩ := hrel
        by_cases hki : k < i
        · have hlk : k < la.length := by omega
          obtain ⟨_, c1, c2, c3, c4, _⟩ := acts_at hs hb HC.out hlt
          obtain ⟨_, d1, d2, d3, d4, _⟩ := acts_at hs hb HC.out hlk
          have hbo : b < wr.heap.size := Nat.lt_of_lt_of_le hb hs.size
          have EQ := fun W => eqNet la[i].n la[k].n W
          cases hsame : sameN la[i].n la[k].n
          · have HK2 : Hid (∀ q (hq : q < la.length), q < k + 1 → la[q].n ≠ la[i].n) := Lib.hid fun q hq hqk => by
              by_cases e : q = k
              · subst e
                intro e2
                rw [(sameN_iff _ _).2 e2.symm] at hsame
                cases hsame
              · exact HK.out q hq (by omega)
            simp only [hsame] at EQ
            clear hsame
            go_wp2_with fail
            have hne : Nonempty (Cls (Stays wr)) := ⟨⟨wr, Below.refl _ _⟩⟩
            have f0 : ∀ q : Cls (Stays wr), q.w.cell? ⟨b, off + i * 6 + 1, none⟩ = some (.bool la[i].n.a.v6) := fun q => (Below.cell (p := ⟨b, off + i * 6 + 1, none⟩) q.h hbo).trans c1
            have f1 : ∀ q : Cls (Stays wr), q.w.cell? ⟨b, off + i * 6 + 2, none⟩ = some (.int .u64 la[i].n.a.hi) := fun q => (Below.cell (p := ⟨b, off + i * 6 + 2, none⟩) q.h hbo).trans c2
            have f2 : ∀ q : Cls (Stays wr), q.w.cell? ⟨b, off + i * 6 + 3, none⟩ = some (.int .u64 la[i].n.a.lo) := fun q => (Below.cell (p := ⟨b, off + i * 6 + 3, none⟩) q.h hbo).trans c3
            have f3 : ∀ q : Cls (Stays wr), q.w.cell? ⟨b, off + i * 6 + 4, none⟩ = some (.int .i64 la[i].n.n) := fun q => (Below.cell (p := ⟨b, off + i * 6 + 4, none⟩) q.h hbo).trans c4
            have f4 : ∀ q : Cls (Stays wr), q.w.cell? ⟨b, off + k * 6 + 1, none⟩ = some (.bool la[k].n.a.v6) := fun q => (Below.cell (p := ⟨b, off + k * 6 + 1, none⟩) q.h hbo).trans d1
            have f5 : ∀ q : Cls (Stays wr), q.w.cell? ⟨b, off + k * 6 + 2, none⟩ = some (.int .u64 la[k].n.a.hi) := fun q => (Below.cell (p := ⟨b, off + k * 6 + 2, none⟩) q.h hbo).trans d2
            have f6 : ∀ q : Cls (Stays wr), q.w.cell? ⟨b, off + k * 6 + 3, none⟩ = some (.int .u64 la[k].n.a.lo) := fun q => (Below.cell (p := ⟨b, off + k * 6 + 3, none⟩) q.h hbo).trans d3
            have f7 : ∀ q : Cls (Stays wr), q.w.cell? ⟨b, off + k * 6 + 4, none⟩ = some (.int .i64 la[k].n.n) := fun q => (Below.cell (p := ⟨b, off + k * 6 + 4, none⟩) q.h hbo).trans d4
            refine Cls.region (Stays wr) (by kernel_rfl) (by kernel_rfl) (low_drewN (Below.refl _ _) 1) ?_
            repeat (go_big_quiet_step (first | fail))
            refine wpQuiet_nil ?_
            intro n9
            have hs9 := n9.h
            generalize n9.w = w9 at hs9 ⊢
            clear hne n9 f0 f1 f2 f3 f4 f5 f6 f7
            have HB9 := Lib.hid (low_trans hs hs9)
            go_wp2_with fail
            go_roundw
            case rel => exact ⟨k + 1, by omega, by go_num, HK2, HB9.out⟩
            case measure => simp [intOf]; omega
          · simp only [hsame] at EQ
            clear hsame
            go_wp2_with fail
            have hne : Nonempty (Cls (Stays wr)) := ⟨⟨wr, Below.refl _ _⟩⟩
            have f0 : ∀ q : Cls (Stays wr), q.w.cell? ⟨b, off + i * 6 + 1, none⟩ = some (.bool la[i].n.a.v6) := fun q => (Below.cell (p := ⟨b, off + i * 6 + 1, none⟩) q.h hbo).trans c1
            have f1 : ∀ q : Cls (Stays wr), q.w.cell? ⟨b, off + i * 6 + 2, none⟩ = some (.int .u64 la[i].n.a.hi) := fun q => (Below.cell (p := ⟨b, off + i * 6 + 2, none⟩) q.h hbo).trans c2
            have f2 : ∀ q : Cls (Stays wr), q.w.cell? ⟨b, off + i * 6 + 3, none⟩ = some (.int .u64 la[i].n.a.lo) := fun q => (Below.cell (p := ⟨b, off + i * 6 + 3, none⟩) q.h hbo).trans c3
            have f3 : ∀ q : Cls (Stays wr), q.w.cell? ⟨b, off + i * 6 + 4, none⟩ = some (.int .i64 la[i].n.n) := fun q => (Below.cell (p := ⟨b, off + i * 6 + 4, none⟩) q.h hbo).trans c4
            have f4 : ∀ q : Cls (Stays wr), q.w.cell? ⟨b, off + k * 6 + 1, none⟩ = some (.bool la[k].n.a.v6) := fun q => (Below.cell (p := ⟨b, off + k * 6 + 1, none⟩) q.h hbo).trans d1
            have f5 : ∀ q : Cls (Stays wr), q.w.cell? ⟨b, off + k * 6 + 2, none⟩ = some (.int .u64 la[k].n.a.hi) := fun q => (Below.cell (p := ⟨b, off + k * 6 + 2, none⟩) q.h hbo).trans d2
            have f6 : ∀ q : Cls (Stays wr), q.w.cell? ⟨b, off + k * 6 + 3, none⟩ = some (.int .u64 la[k].n.a.lo) := fun q => (Below.cell (p := ⟨b, off + k * 6 + 3, none⟩) q.h hbo).trans d3
            have f7 : ∀ q : Cls (Stays wr), q.w.cell? ⟨b, off + k * 6 + 4, none⟩ = some (.int .i64 la[k].n.n) := fun q => (Below.cell (p := ⟨b, off + k * 6 + 4, none⟩) q.h hbo).trans d4
            refine Cls.region (Stays wr) (by kernel_rfl) (by kernel_rfl) (low_drewN (Below.refl _ _) 1) ?_
            repeat (go_big_quiet_step (first | fail))
            refine wpQuiet_nil ?_
            intro n9
            have hs9 := n9.h
            generalize n9.w = w9 at hs9 ⊢
            clear hne n9 f0 f1 f2 f3 f4 f5 f6 f7
            have HB9 := Lib.hid (low_trans hs hs9)
            go_wp2_with fail
            (with_reducible refine (T2.out _).mono ?_)
            rintro e w5 ⟨rfl, hb5⟩
            have HB5 := Lib.hid (low_trans HB9.out hb5)
            clear hb5
            go_wp2_with fail
            go_ret
            exact ⟨rfl, HB5.out⟩
        · have HD2 : Hid (∀ p q (hp : p < la.length) (hq : q < la.length), q < p → p < i + 1 → la[q].n ≠ la[p].n) := Lib.hid fun p q hp hq hqp hpi => by
            by_cases e : p = i
            · subst e; exact HK.out q hq (by omega)
            · exact HD.out p q hp hq hqp (by omega)
          go_wp2_with fail
          go_roundw
          case rel => exact ⟨i + 1, by omega, by go_num, HD2, hs⟩
          case measure => simp [intOf]; omega
    · have HU : Hid (Unlike la) := Lib.hid (by
        unfold Unlike
        rw [List.pairwise_iff_getElem]
        intro q p hq hp hqp
        exact HD.out p q hp hq hqp (by omega))
      have HS := Lib.hid hs
      obtain ⟨wq, hwq⟩ : ∃ W, W = wr := ⟨_, rfl⟩
      subst hwq
      clear hs HD
      by_cases hbad : m < 0 ∨ (la.length : Int) ≤ m
      · have hmm : 0 < la.length := hpos
        by_cases hg : m < 0
        · clear hbad
          go_wp2_with fail
          (with_reducible refine (NW.out _).mono ?_)
          rintro e w1 ⟨a0, rfl, ha0, hb1⟩
          have HB1 := Lib.hid (low_trans HS.out hb1)
          have HA0 := Lib.hid ha0
          clear ha0 hb1
          go_wp2_with fail
          (with_reducible refine (NW.out _).mono ?_)
          rintro e w2 ⟨b0, rfl, hb0, hb2⟩
          have HB2 := Lib.hid (low_trans HB1.out hb2)
          have HA1 := Lib.hid (T.below HA0.out hb2)
          have HB0 := Lib.hid hb0
          clear hb0 hb2 HA0 HB1 HS
          go_wp2_with fail
          go_loopw [7, 8, 9] (fun ta tb i wr => ∃ k : Nat, k ≤ la.length ∧ i = .int .i64 k ∧ Hid (T.Is wr ta (fill [] (la.take k))) ∧ Hid (T.Is wr tb (fill [] (turnedA la 0 k))) ∧ Below w.heap.size w wr) (fun _ _ i _ => la.length - (intOf i).toNat)
          case atStart => exact ⟨0, Nat.zero_le _, rfl, HA1, HB0, HB2.out⟩
          case round =>
            obtain ⟨k, hk, rfl, HIa, HIb, hs⟩ := hrel
            by_cases hlt : k < la.length
            · have hL1 := fill_len (la.take k) []
              have hL2 := fill_len (turnedA la 0 k) []
              have hL3 := turnedA_len la 0 k
              have hL4 : (la.take k).length ≤ k := by rw [List.length_take]; omega
              have hxo := hokH.out la[k] (List.getElem_mem hlt)
              obtain ⟨_, c1, c2, c3, c4, c5⟩ := acts_at hs hb HC.out hlt
              have hbo : b < wr.heap.size := Nat.lt_of_lt_of_le hb hs.size
              have hk0 : P5 la[k] b (off + k * 6) wr wr := ⟨c1, c2, c3, c4, c5, Below.refl _ _⟩
              have KW : Hid (∀ W, P5 la[k] b (off + k * 6) wr W → Calls Try.prog 18 #[u7, .agg #[.bool la[k].n.a.v6, .int .u64 la[k].n.a.hi, .int .u64 la[k].n.a.lo, .int .i64 la[k].n.n], .int .i64 la[k].v] W fun e w' => ∃ u, e = .returned u ∧ T.Is w' u (withH (fill [] (la.take k)) la[k].n la[k].v) ∧ P5 la[k] b (off + k * 6) wr w') := Lib.hid fun W h => (T.put u7 _ la[k].n la[k].v W (T.below HIa.out h.2.2.2.2.2) (by simp at hL1; omega) hxo.1 hxo.2.1 hxo.2.2).mono fun e w' ⟨u, he, hu, hb⟩ => ⟨u, he, hu, P5.of ⟨c1, c2, c3, c4, c5⟩ hbo (low_trans h.2.2.2.2.2 hb)⟩
              have JD : Hid (∀ W, P5 la[k] b (off + k * 6) wr W → P5 la[k] b (off + k * 6) wr W.drew) := Lib.hid fun W h => P5.of ⟨c1, c2, c3, c4, c5⟩ hbo (low_drewN h.2.2.2.2.2 1)
              go_wp2_with fail
              go_region_held3 (fun w' => w'.cell? ⟨b, off + k * 6 + 1, none⟩ = some (.bool la[k].n.a.v6) ∧ w'.cell? ⟨b, off + k * 6 + 2, none⟩ = some (.int .u64 la[k].n.a.hi) ∧ w'.cell? ⟨b, off + k * 6 + 3, none⟩ = some (.int .u64 la[k].n.a.lo) ∧ w'.cell? ⟨b, off + k * 6 + 4, none⟩ = some (.int .i64 la[k].n.n) ∧ w'.cell? ⟨b, off + k * 6 + 5, none⟩ = some (.int .i64 la[k].v) ∧ Stays wr w')
                (first | assumption | exact JD.out _ ‹_›)
                (first | (go_at_call 18; (with_reducible refine (KW.out _ ‹_›).mono ?_); rintro e w3 ⟨a', rfl, ha', hk3⟩))
              have hs3 := hk3.2.2.2.2.2
              have HIb3 := Lib.hid (T.below HIb.out hs3)
              have HIa3 : Hid (T.Is w3 a' (fill [] (la.take (k + 1)))) := Lib.hid (by rw [List.take_succ_eq_append_getElem hlt, fill_snoc]; exact ha')
              have HS3 := Lib.hid (low_trans hs hs3)
              clear ha' hk3 hs3 hk0 c1 c2 c3 c4 c5 JD KW hxo
              obtain ⟨r, hr⟩ : ∃ r : Nat, r = (k + 0) % la.length := ⟨_, rfl⟩
              have hrl : r < la.length := by rw [hr]; exact Nat.mod_lt _ hpos
              obtain ⟨kk, hkk⟩ : ∃ kk : Nat, kk = back la.length 0 k := ⟨_, rfl⟩
              have hkl : kk < la.length := by rw [hkk]; exact back_lt hpos
              have e2 : (la.length : Int) - 1 - (r : Int) = (kk : Int) := by rw [hkk]; unfold back; rw [← hr]; omega
              have e1 : (((k : Nat) : Int)).tmod (la.length : Int) = (r : Int) := by rw [hr, Int.tmod_eq_emod_of_nonneg (by omega)]; rw [Nat.add_zero, Int.natCast_emod]
              have HKK := Lib.hid hkk
              clear hr hkk
              have hyo := hokH.out la[kk] (List.getElem_mem hkl)
              obtain ⟨_, c1, c2, c3, c4, c5⟩ := acts_at HS3.out hb HC.out hkl
              have hbo3 : b < w3.heap.size := Nat.lt_of_lt_of_le hb HS3.out.size
              have hk4 : P5 la[kk] b (off + kk * 6) w3 w3 := ⟨c1, c2, c3, c4, c5, Below.refl _ _⟩
              have KV : Hid (∀ W, P5 la[kk] b (off + kk * 6) w3 W → Calls Try.prog 18 #[u8, .agg #[.bool la[kk].n.a.v6, .int .u64 la[kk].n.a.hi, .int .u64 la[kk].n.a.lo, .int .i64 la[kk].n.n], .int .i64 la[kk].v] W fun e w' => ∃ u, e = .returned u ∧ T.Is w' u (withH (fill [] (turnedA la 0 k)) la[kk].n la[kk].v) ∧ P5 la[kk] b (off + kk * 6) w3 w') := Lib.hid fun W h => (T.put u8 _ la[kk].n la[kk].v W (T.below HIb3.out h.2.2.2.2.2) (by simp at hL2; omega) hyo.1 hyo.2.1 hyo.2.2).mono fun e w' ⟨u, he, hu, hb⟩ => ⟨u, he, hu, P5.of ⟨c1, c2, c3, c4, c5⟩ hbo3 (low_trans h.2.2.2.2.2 hb)⟩
              have JV : Hid (∀ W, P5 la[kk] b (off + kk * 6) w3 W → P5 la[kk] b (off + kk * 6) w3 W.drew) := Lib.hid fun W h => P5.of ⟨c1, c2, c3, c4, c5⟩ hbo3 (low_drewN h.2.2.2.2.2 1)
              go_wp2_with fail
              go_region_held3 (fun w' => w'.cell? ⟨b, off + kk * 6 + 1, none⟩ = some (.bool la[kk].n.a.v6) ∧ w'.cell? ⟨b, off + kk * 6 + 2, none⟩ = some (.int .u64 la[kk].n.a.hi) ∧ w'.cell? ⟨b, off + kk * 6 + 3, none⟩ = some (.int .u64 la[kk].n.a.lo) ∧ w'.cell? ⟨b, off + kk * 6 + 4, none⟩ = some (.int .i64 la[kk].n.n) ∧ w'.cell? ⟨b, off + kk * 6 + 5, none⟩ = some (.int .i64 la[kk].v) ∧ Stays w3 w')
                (first | assumption | exact JV.out _ ‹_›)
                (first | (go_at_call 18; (with_reducible refine (KV.out _ ‹_›).mono ?_); rintro e w4 ⟨b', rfl, hb', hk5⟩))
              have hs4 := hk5.2.2.2.2.2
              have G1 := Lib.hid (T.below HIa3.out hs4)
              have G2 : Hid (T.Is w4 b' (fill [] (turnedA la 0 (k + 1)))) := Lib.hid (by
                have e := HKK.out
                subst e
                rw [turnedA_next _ _ _ (back_lt hpos), fill_snoc]; exact hb')
              have G3 := Lib.hid (low_trans HS3.out hs4)
              clear hb' hk5 hs4 hk4 c1 c2 c3 c4 c5 KV JV hyo
              go_wp2_with fail
              go_roundw
              case rel => exact ⟨k + 1, by omega, by go_num, G1, G2, G3.out⟩
              case measure => simp [intOf]; omega
            · obtain ⟨L, hL⟩ : ∃ L, L = fill [] la := ⟨_, rfl⟩
              have hLl : L.length ≤ 60 := by have := fill_len la []; rw [hL]; simp at this; omega
              have HIa2 : Hid (T.Is wr u7 L) := by
                have := HIa
                rw [List.take_of_length_le (by omega)] at this
                rw [hL]; exact this
              have HIb2 : Hid (T.Is wr u8 L) := by
                have := HIb
                rw [show k = la.length by omega, fill_turned hmm HU.out] at this
                rw [hL]; exact this
              have AL := Lib.hid (T.all u7 L wr HIa2.out (by omega))
              have HSr := Lib.hid hs
              clear hL HIa HIb hs
              go_wp2_with fail
              (with_reducible refine AL.out.mono ?_)
              rintro e w6 ⟨now, rfl, hnow0, hb6⟩
              have AL2 := Lib.hid (T.all u8 L w6 (T.below HIb2.out hb6) (by omega))
              have HN6 := Lib.hid hnow0
              have HIa6 := Lib.hid (T.below HIa2.out hb6)
              have HB6 := Lib.hid (low_trans HSr.out hb6)
              obtain ⟨An, cn, rfl, hn2, _, _⟩ := id hnow0
              clear hnow0 hb6 AL
              go_wp2_with fail
              (with_reducible refine AL2.out.mono ?_)
              rintro e w7 ⟨was, rfl, hwas0, hb7⟩
              have LE := Lib.hid (T.len u7 L w7 (T.below HIa6.out hb7) (by omega))
              have HN7 := Lib.hid (HN6.out.below hb7)
              have HW7 := Lib.hid hwas0
              have HB7 := Lib.hid (low_trans HB6.out hb7)
              obtain ⟨Aw, cw, rfl, hw2, _, _⟩ := id hwas0
              have e1 : (((L.length : Nat) : Int) != ((L.length : Nat) : Int)) = false := by simp
              clear hwas0 hb7 AL2
              go_wp2_with fail
              (with_reducible refine LE.out.mono ?_)
              rintro e wB ⟨rfl, hb8⟩
              have hnow := HN7.out.below hb8
              have hwas := HW7.out.below hb8
              have HBB := Lib.hid (low_trans HB7.out hb8)
              obtain ⟨_, _, en, _, _, hncell⟩ := hnow
              obtain ⟨_, _, ew, _, _, hwcell⟩ := hwas
              simp only [Value.slice.injEq, true_and] at en ew
              obtain ⟨rfl, rfl⟩ := en
              obtain ⟨rfl, rfl⟩ := ew
              have HA := Lib.hid hncell
              have HW := Lib.hid hwcell
              have NQ := Lib.hid (fun (k : Nat) (hk : k < L.length) W => neqHit L[k] L[k] W)
              obtain ⟨wv, hwv⟩ : ∃ W, W = wr := ⟨_, rfl⟩
              clear hncell hwcell hb8
              subst hwv
              go_wp2_with fail
              go_loopw [13] (fun i wr => ∃ k : Nat, k ≤ L.length ∧ i = .int .i64 k ∧ Stays wB wr) (fun i _ => L.length - (intOf i).toNat)
              case atStart => exact ⟨0, Nat.zero_le _, rfl, Below.refl _ _⟩
              case round =>
                obtain ⟨k, hk, rfl, hs⟩ := hrel
                by_cases hlt : k < L.length
                · obtain ⟨b, o, rfl, hb, hcc⟩ := HA.out (by omega)
                  obtain ⟨b', o', rfl, hb', hcc'⟩ := HW.out (by omega)
                  obtain ⟨c0, c1, c2, c3, c4⟩ := hit_cells (fun i h j u hu => (hs.cell (p := ⟨b, o + i * 5 + j, none⟩) hb).trans (hcc i h j u hu)) hlt
                  obtain ⟨d0, d1, d2, d3, d4⟩ := hit_cells (fun i h j u hu => (hs.cell (p := ⟨b', o' + i * 5 + j, none⟩) hb').trans (hcc' i h j u hu)) hlt
                  have N1 := NQ.out k hlt
                  have hsm := sameH_self L[k]
                  simp only [hsm, Bool.not_true] at N1
                  clear hcc hcc' hsm
                  have hb3 : b < wr.heap.size := Nat.lt_of_lt_of_le hb hs.size
                  have hb4 : b' < wr.heap.size := Nat.lt_of_lt_of_le hb' hs.size
                  go_wp2_with fail
                  have hne : Nonempty (Cls (Stays wr)) := ⟨⟨wr, Below.refl _ _⟩⟩
                  have f0 : ∀ q : Cls (Stays wr), q.w.cell? ⟨b, o + k * 5, none⟩ = some (.bool L[k].n.a.v6) := fun q => (Below.cell (p := ⟨b, o + k * 5, none⟩) q.h hb3).trans c0
                  have f1 : ∀ q : Cls (Stays wr), q.w.cell? ⟨b, o + k * 5 + 1, none⟩ = some (.int .u64 L[k].n.a.hi) := fun q => (Below.cell (p := ⟨b, o + k * 5 + 1, none⟩) q.h hb3).trans c1
                  have f2 : ∀ q : Cls (Stays wr), q.w.cell? ⟨b, o + k * 5 + 2, none⟩ = some (.int .u64 L[k].n.a.lo) := fun q => (Below.cell (p := ⟨b, o + k * 5 + 2, none⟩) q.h hb3).trans c2
                  have f3 : ∀ q : Cls (Stays wr), q.w.cell? ⟨b, o + k * 5 + 3, none⟩ = some (.int .i64 L[k].n.n) := fun q => (Below.cell (p := ⟨b, o + k * 5 + 3, none⟩) q.h hb3).trans c3
                  have f4 : ∀ q : Cls (Stays wr), q.w.cell? ⟨b, o + k * 5 + 4, none⟩ = some (.int .i64 L[k].v) := fun q => (Below.cell (p := ⟨b, o + k * 5 + 4, none⟩) q.h hb3).trans c4
                  have f5 : ∀ q : Cls (Stays wr), q.w.cell? ⟨b', o' + k * 5, none⟩ = some (.bool L[k].n.a.v6) := fun q => (Below.cell (p := ⟨b', o' + k * 5, none⟩) q.h hb4).trans d0
                  have f6 : ∀ q : Cls (Stays wr), q.w.cell? ⟨b', o' + k * 5 + 1, none⟩ = some (.int .u64 L[k].n.a.hi) := fun q => (Below.cell (p := ⟨b', o' + k * 5 + 1, none⟩) q.h hb4).trans d1
                  have f7 : ∀ q : Cls (Stays wr), q.w.cell? ⟨b', o' + k * 5 + 2, none⟩ = some (.int .u64 L[k].n.a.lo) := fun q => (Below.cell (p := ⟨b', o' + k * 5 + 2, none⟩) q.h hb4).trans d2
                  have f8 : ∀ q : Cls (Stays wr), q.w.cell? ⟨b', o' + k * 5 + 3, none⟩ = some (.int .i64 L[k].n.n) := fun q => (Below.cell (p := ⟨b', o' + k * 5 + 3, none⟩) q.h hb4).trans d3
                  have f9 : ∀ q : Cls (Stays wr), q.w.cell? ⟨b', o' + k * 5 + 4, none⟩ = some (.int .i64 L[k].v) := fun q => (Below.cell (p := ⟨b', o' + k * 5 + 4, none⟩) q.h hb4).trans d4
                  refine Cls.region (Stays wr) (by kernel_rfl) (by kernel_rfl) (low_drewN (Below.refl _ _) 1) ?_
                  repeat (go_big_quiet_step (first | fail))
                  refine wpQuiet_nil ?_
                  intro n9
                  have hs9 := n9.h
                  generalize n9.w = w9 at hs9 ⊢
                  clear hne n9 f0 f1 f2 f3 f4 f5 f6 f7 f8 f9
                  have HB9 := Lib.hid (low_trans hs hs9)
                  go_wp2_with fail
                  go_roundw
                  case rel => exact ⟨k + 1, by omega, by go_num, HB9.out⟩
                  case measure => simp [intOf]; omega
                · go_wp2_with fail
                  (with_reducible refine (T2.out _).mono ?_)
                  rintro e w9 ⟨rfl, hb⟩
                  have HB9 := Lib.hid (low_trans HBB.out (low_trans hs hb))
                  clear hb
                  go_wp2_with fail
                  go_ret
                  exact ⟨rfl, HB9.out⟩
        · have hg0 : 0 ≤ m := by omega
          have hg1 : (la.length : Int) ≤ m := by omega
          clear hbad hg
          go_wp2_with fail
          (with_reducible refine (NW.out _).mono ?_)
          rintro e w1 ⟨a0, rfl, ha0, hb1⟩
          have HB1 := Lib.hid (low_trans HS.out hb1)
          have HA0 := Lib.hid ha0
          clear ha0 hb1
          go_wp2_with fail
          (with_reducible refine (NW.out _).mono ?_)
          rintro e w2 ⟨b0, rfl, hb0, hb2⟩
          have HB2 := Lib.hid (low_trans HB1.out hb2)
          have HA1 := Lib.hid (T.below HA0.out hb2)
          have HB0 := Lib.hid hb0
          clear hb0 hb2 HA0 HB1 HS
          go_wp2_with fail
          go_loopw [7, 8, 9] (fun ta tb i wr => ∃ k : Nat, k ≤ la.length ∧ i = .int .i64 k ∧ Hid (T.Is wr ta (fill [] (la.take k))) ∧ Hid (T.Is wr tb (fill [] (turnedA la 0 k))) ∧ Below w.heap.size w wr) (fun _ _ i _ => la.length - (intOf i).toNat)
          case atStart => exact ⟨0, Nat.zero_le _, rfl, HA1, HB0, HB2.out⟩
          case round =>
            obtain ⟨k, hk, rfl, HIa, HIb, hs⟩ := hrel
            by_cases hlt : k < la.length
            · have hL1 := fill_len (la.take k) []
              have hL2 := fill_len (turnedA la 0 k) []
              have hL3 := turnedA_len la 0 k
              have hL4 : (la.take k).length ≤ k := by rw [List.length_take]; omega
              have hxo := hokH.out la[k] (List.getElem_mem hlt)
              obtain ⟨_, c1, c2, c3, c4, c5⟩ := acts_at hs hb HC.out hlt
              have hbo : b < wr.heap.size := Nat.lt_of_lt_of_le hb hs.size
              have hk0 : P5 la[k] b (off + k * 6) wr wr := ⟨c1, c2, c3, c4, c5, Below.refl _ _⟩
              have KW : Hid (∀ W, P5 la[k] b (off + k * 6) wr W → Calls Try.prog 18 #[u7, .agg #[.bool la[k].n.a.v6, .int .u64 la[k].n.a.hi, .int .u64 la[k].n.a.lo, .int .i64 la[k].n.n], .int .i64 la[k].v] W fun e w' => ∃ u, e = .returned u ∧ T.Is w' u (withH (fill [] (la.take k)) la[k].n la[k].v) ∧ P5 la[k] b (off + k * 6) wr w') := Lib.hid fun W h => (T.put u7 _ la[k].n la[k].v W (T.below HIa.out h.2.2.2.2.2) (by simp at hL1; omega) hxo.1 hxo.2.1 hxo.2.2).mono fun e w' ⟨u, he, hu, hb⟩ => ⟨u, he, hu, P5.of ⟨c1, c2, c3, c4, c5⟩ hbo (low_trans h.2.2.2.2.2 hb)⟩
              have JD : Hid (∀ W, P5 la[k] b (off + k * 6) wr W → P5 la[k] b (off + k * 6) wr W.drew) := Lib.hid fun W h => P5.of ⟨c1, c2, c3, c4, c5⟩ hbo (low_drewN h.2.2.2.2.2 1)
              go_wp2_with fail
              go_region_held3 (fun w' => w'.cell? ⟨b, off + k * 6 + 1, none⟩ = some (.bool la[k].n.a.v6) ∧ w'.cell? ⟨b, off + k * 6 + 2, none⟩ = some (.int .u64 la[k].n.a.hi) ∧ w'.cell? ⟨b, off + k * 6 + 3, none⟩ = some (.int .u64 la[k].n.a.lo) ∧ w'.cell? ⟨b, off + k * 6 + 4, none⟩ = some (.int .i64 la[k].n.n) ∧ w'.cell? ⟨b, off + k * 6 + 5, none⟩ = some (.int .i64 la[k].v) ∧ Stays wr w')
                (first | assumption | exact JD.out _ ‹_›)
                (first | (go_at_call 18; (with_reducible refine (KW.out _ ‹_›).mono ?_); rintro e w3 ⟨a', rfl, ha', hk3⟩))
              have hs3 := hk3.2.2.2.2.2
              have HIb3 := Lib.hid (T.below HIb.out hs3)
              have HIa3 : Hid (T.Is w3 a' (fill [] (la.take (k + 1)))) := Lib.hid (by rw [List.take_succ_eq_append_getElem hlt, fill_snoc]; exact ha')
              have HS3 := Lib.hid (low_trans hs hs3)
              clear ha' hk3 hs3 hk0 c1 c2 c3 c4 c5 JD KW hxo
              obtain ⟨r, hr⟩ : ∃ r : Nat, r = (k + 0) % la.length := ⟨_, rfl⟩
              have hrl : r < la.length := by rw [hr]; exact Nat.mod_lt _ hpos
              obtain ⟨kk, hkk⟩ : ∃ kk : Nat, kk = back la.length 0 k := ⟨_, rfl⟩
              have hkl : kk < la.length := by rw [hkk]; exact back_lt hpos
              have e2 : (la.length : Int) - 1 - (r : Int) = (kk : Int) := by rw [hkk]; unfold back; rw [← hr]; omega
              have e1 : (((k : Nat) : Int)).tmod (la.length : Int) = (r : Int) := by rw [hr, Int.tmod_eq_emod_of_nonneg (by omega)]; rw [Nat.add_zero, Int.natCast_emod]
              have HKK := Lib.hid hkk
              clear hr hkk
              have hyo := hokH.out la[kk] (List.getElem_mem hkl)
              obtain ⟨_, c1, c2, c3, c4, c5⟩ := acts_at HS3.out hb HC.out hkl
              have hbo3 : b < w3.heap.size := Nat.lt_of_lt_of_le hb HS3.out.size
              have hk4 : P5 la[kk] b (off + kk * 6) w3 w3 := ⟨c1, c2, c3, c4, c5, Below.refl _ _⟩
              have KV : Hid (∀ W, P5 la[kk] b (off + kk * 6) w3 W → Calls Try.prog 18 #[u8, .agg #[.bool la[kk].n.a.v6, .int .u64 la[kk].n.a.hi, .int .u64 la[kk].n.a.lo, .int .i64 la[kk].n.n], .int .i64 la[kk].v] W fun e w' => ∃ u, e = .returned u ∧ T.Is w' u (withH (fill [] (turnedA la 0 k)) la[kk].n la[kk].v) ∧ P5 la[kk] b (off + kk * 6) w3 w') := Lib.hid fun W h => (T.put u8 _ la[kk].n la[kk].v W (T.below HIb3.out h.2.2.2.2.2) (by simp at hL2; omega) hyo.1 hyo.2.1 hyo.2.2).mono fun e w' ⟨u, he, hu, hb⟩ => ⟨u, he, hu, P5.of ⟨c1, c2, c3, c4, c5⟩ hbo3 (low_trans h.2.2.2.2.2 hb)⟩
              have JV : Hid (∀ W, P5 la[kk] b (off + kk * 6) w3 W → P5 la[kk] b (off + kk * 6) w3 W.drew) := Lib.hid fun W h => P5.of ⟨c1, c2, c3, c4, c5⟩ hbo3 (low_drewN h.2.2.2.2.2 1)
              go_wp2_with fail
              go_region_held3 (fun w' => w'.cell? ⟨b, off + kk * 6 + 1, none⟩ = some (.bool la[kk].n.a.v6) ∧ w'.cell? ⟨b, off + kk * 6 + 2, none⟩ = some (.int .u64 la[kk].n.a.hi) ∧ w'.cell? ⟨b, off + kk * 6 + 3, none⟩ = some (.int .u64 la[kk].n.a.lo) ∧ w'.cell? ⟨b, off + kk * 6 + 4, none⟩ = some (.int .i64 la[kk].n.n) ∧ w'.cell? ⟨b, off + kk * 6 + 5, none⟩ = some (.int .i64 la[kk].v) ∧ Stays w3 w')
                (first | assumption | exact JV.out _ ‹_›)
                (first | (go_at_call 18; (with_reducible refine (KV.out _ ‹_›).mono ?_); rintro e w4 ⟨b', rfl, hb', hk5⟩))
              have hs4 := hk5.2.2.2.2.2
              have G1 := Lib.hid (T.below HIa3.out hs4)
              have G2 : Hid (T.Is w4 b' (fill [] (turnedA la 0 (k + 1)))) := Lib.hid (by
                have e := HKK.out
                subst e
                rw [turnedA_next _ _ _ (back_lt hpos), fill_snoc]; exact hb')
              have G3 := Lib.hid (low_trans HS3.out hs4)
              clear hb' hk5 hs4 hk4 c1 c2 c3 c4 c5 KV JV hyo
              go_wp2_with fail
              go_roundw
              case rel => exact ⟨k + 1, by omega, by go_num, G1, G2, G3.out⟩
              case measure => simp [intOf]; omega
            · obtain ⟨L, hL⟩ : ∃ L, L = fill [] la := ⟨_, rfl⟩
              have hLl : L.length ≤ 60 := by have := fill_len la []; rw [hL]; simp at this; omega
              have HIa2 : Hid (T.Is wr u7 L) := by
                have := HIa
                rw [List.take_of_length_le (by omega)] at this
                rw [hL]; exact this
              have HIb2 : Hid (T.Is wr u8 L) := by
                have := HIb
                rw [show k = la.length by omega, fill_turned hmm HU.out] at this
                rw [hL]; exact this
              have AL := Lib.hid (T.all u7 L wr HIa2.out (by omega))
              have HSr := Lib.hid hs
              clear hL HIa HIb hs
              go_wp2_with fail
              (with_reducible refine AL.out.mono ?_)
              rintro e w6 ⟨now, rfl, hnow0, hb6⟩
              have AL2 := Lib.hid (T.all u8 L w6 (T.below HIb2.out hb6) (by omega))
              have HN6 := Lib.hid hnow0
              have HIa6 := Lib.hid (T.below HIa2.out hb6)
              have HB6 := Lib.hid (low_trans HSr.out hb6)
              obtain ⟨An, cn, rfl, hn2, _, _⟩ := id hnow0
              clear hnow0 hb6 AL
              go_wp2_with fail
              (with_reducible refine AL2.out.mono ?_)
              rintro e w7 ⟨was, rfl, hwas0, hb7⟩
              have LE := Lib.hid (T.len u7 L w7 (T.below HIa6.out hb7) (by omega))
              have HN7 := Lib.hid (HN6.out.below hb7)
              have HW7 := Lib.hid hwas0
              have HB7 := Lib.hid (low_trans HB6.out hb7)
              obtain ⟨Aw, cw, rfl, hw2, _, _⟩ := id hwas0
              have e1 : (((L.length : Nat) : Int) != ((L.length : Nat) : Int)) = false := by simp
              clear hwas0 hb7 AL2
              go_wp2_with fail
              (with_reducible refine LE.out.mono ?_)
              rintro e wB ⟨rfl, hb8⟩
              have hnow := HN7.out.below hb8
              have hwas := HW7.out.below hb8
              have HBB := Lib.hid (low_trans HB7.out hb8)
              obtain ⟨_, _, en, _, _, hncell⟩ := hnow
              obtain ⟨_, _, ew, _, _, hwcell⟩ := hwas
              simp only [Value.slice.injEq, true_and] at en ew
              obtain ⟨rfl, rfl⟩ := en
              obtain ⟨rfl, rfl⟩ := ew
              have HA := Lib.hid hncell
              have HW := Lib.hid hwcell
              have NQ := Lib.hid (fun (k : Nat) (hk : k < L.length) W => neqHit L[k] L[k] W)
              obtain ⟨wv, hwv⟩ : ∃ W, W = wr := ⟨_, rfl⟩
              clear hncell hwcell hb8
              subst hwv
              go_wp2_with fail
              go_loopw [13] (fun i wr => ∃ k : Nat, k ≤ L.length ∧ i = .int .i64 k ∧ Stays wB wr) (fun i _ => L.length - (intOf i).toNat)
              case atStart => exact ⟨0, Nat.zero_le _, rfl, Below.refl _ _⟩
              case round =>
                obtain ⟨k, hk, rfl, hs⟩ := hrel
                by_cases hlt : k < L.length
                · obtain ⟨b, o, rfl, hb, hcc⟩ := HA.out (by omega)
                  obtain ⟨b', o', rfl, hb', hcc'⟩ := HW.out (by omega)
                  obtain ⟨c0, c1, c2, c3, c4⟩ := hit_cells (fun i h j u hu => (hs.cell (p := ⟨b, o + i * 5 + j, none⟩) hb).trans (hcc i h j u hu)) hlt
                  obtain ⟨d0, d1, d2, d3, d4⟩ := hit_cells (fun i h j u hu => (hs.cell (p := ⟨b', o' + i * 5 + j, none⟩) hb').trans (hcc' i h j u hu)) hlt
                  have N1 := NQ.out k hlt
                  have hsm := sameH_self L[k]
                  simp only [hsm, Bool.not_true] at N1
                  clear hcc hcc' hsm
                  have hb3 : b < wr.heap.size := Nat.lt_of_lt_of_le hb hs.size
                  have hb4 : b' < wr.heap.size := Nat.lt_of_lt_of_le hb' hs.size
                  go_wp2_with fail
                  have hne : Nonempty (Cls (Stays wr)) := ⟨⟨wr, Below.refl _ _⟩⟩
                  have f0 : ∀ q : Cls (Stays wr), q.w.cell? ⟨b, o + k * 5, none⟩ = some (.bool L[k].n.a.v6) := fun q => (Below.cell (p := ⟨b, o + k * 5, none⟩) q.h hb3).trans c0
                  have f1 : ∀ q : Cls (Stays wr), q.w.cell? ⟨b, o + k * 5 + 1, none⟩ = some (.int .u64 L[k].n.a.hi) := fun q => (Below.cell (p := ⟨b, o + k * 5 + 1, none⟩) q.h hb3).trans c1
                  have f2 : ∀ q : Cls (Stays wr), q.w.cell? ⟨b, o + k * 5 + 2, none⟩ = some (.int .u64 L[k].n.a.lo) := fun q => (Below.cell (p := ⟨b, o + k * 5 + 2, none⟩) q.h hb3).trans c2
                  have f3 : ∀ q : Cls (Stays wr), q.w.cell? ⟨b, o + k * 5 + 3, none⟩ = some (.int .i64 L[k].n.n) := fun q => (Below.cell (p := ⟨b, o + k * 5 + 3, none⟩) q.h hb3).trans c3
                  have f4 : ∀ q : Cls (Stays wr), q.w.cell? ⟨b, o + k * 5 + 4, none⟩ = some (.int .i64 L[k].v) := fun q => (Below.cell (p := ⟨b, o + k * 5 + 4, none⟩) q.h hb3).trans c4
                  have f5 : ∀ q : Cls (Stays wr), q.w.cell? ⟨b', o' + k * 5, none⟩ = some (.bool L[k].n.a.v6) := fun q => (Below.cell (p := ⟨b', o' + k * 5, none⟩) q.h hb4).trans d0
                  have f6 : ∀ q : Cls (Stays wr), q.w.cell? ⟨b', o' + k * 5 + 1, none⟩ = some (.int .u64 L[k].n.a.hi) := fun q => (Below.cell (p := ⟨b', o' + k * 5 + 1, none⟩) q.h hb4).trans d1
                  have f7 : ∀ q : Cls (Stays wr), q.w.cell? ⟨b', o' + k * 5 + 2, none⟩ = some (.int .u64 L[k].n.a.lo) := fun q => (Below.cell (p := ⟨b', o' + k * 5 + 2, none⟩) q.h hb4).trans d2
                  have f8 : ∀ q : Cls (Stays wr), q.w.cell? ⟨b', o' + k * 5 + 3, none⟩ = some (.int .i64 L[k].n.n) := fun q => (Below.cell (p := ⟨b', o' + k * 5 + 3, none⟩) q.h hb4).trans d3
                  have f9 : ∀ q : Cls (Stays wr), q.w.cell? ⟨b', o' + k * 5 + 4, none⟩ = some (.int .i64 L[k].v) := fun q => (Below.cell (p := ⟨b', o' + k * 5 + 4, none⟩) q.h hb4).trans d4
                  refine Cls.region (Stays wr) (by kernel_rfl) (by kernel_rfl) (low_drewN (Below.refl _ _) 1) ?_
                  repeat (go_big_quiet_step (first | fail))
                  refine wpQuiet_nil ?_
                  intro n9
                  have hs9 := n9.h
                  generalize n9.w = w9 at hs9 ⊢
                  clear hne n9 f0 f1 f2 f3 f4 f5 f6 f7 f8 f9
                  have HB9 := Lib.hid (low_trans hs hs9)
                  go_wp2_with fail
                  go_roundw
                  case rel => exact ⟨k + 1, by omega, by go_num, HB9.out⟩
                  case measure => simp [intOf]; omega
                · go_wp2_with fail
                  (with_reducible refine (T2.out _).mono ?_)
                  rintro e w9 ⟨rfl, hb⟩
                  have HB9 := Lib.hid (low_trans HBB.out (low_trans hs hb))
                  clear hb
                  go_wp2_with fail
                  go_ret
                  exact ⟨rfl, HB9.out⟩
      · have hg1 : 0 ≤ m := by omega
        have hg2 : m < (la.length : Int) := by omega
        obtain ⟨mm, rfl⟩ : ∃ mm : Nat, m = (mm : Int) := ⟨m.toNat, by omega⟩
        have hmm : mm < la.length := by omega
        clear hbad
        go_wp2_with fail
        (with_reducible refine (NW.out _).mono ?_)
        rintro e w1 ⟨a0, rfl, ha0, hb1⟩
        have HB1 := Lib.hid (low_trans HS.out hb1)
        have HA0 := Lib.hid ha0
        clear ha0 hb1
        go_wp2_with fail
        (with_reducible refine (NW.out _).mono ?_)
        rintro e w2 ⟨b0, rfl, hb0, hb2⟩
        have HB2 := Lib.hid (low_trans HB1.out hb2)
        have HA1 := Lib.hid (T.below HA0.out hb2)
        have HB0 := Lib.hid hb0
        clear hb0 hb2 HA0 HB1 HS
        go_wp2_with fail
        go_loopw [7, 8, 9] (fun ta tb i wr => ∃ k : Nat, k ≤ la.length ∧ i = .int .i64 k ∧ Hid (T.Is wr ta (fill [] (la.take k))) ∧ Hid (T.Is wr tb (fill [] (turnedA la mm k))) ∧ Below w.heap.size w wr) (fun _ _ i _ => la.length - (intOf i).toNat)
        case atStart => exact ⟨0, Nat.zero_le _, rfl, HA1, HB0, HB2.out⟩
        case round =>
          obtain ⟨k, hk, rfl, HIa, HIb, hs⟩ := hrel
          by_cases hlt : k < la.length
          · have hL1 := fill_len (la.take k) []
            have hL2 := fill_len (turnedA la mm k) []
            have hL3 := turnedA_len la mm k
            have hL4 : (la.take k).length ≤ k := by rw [List.length_take]; omega
            have hxo := hokH.out la[k] (List.getElem_mem hlt)
            obtain ⟨_, c1, c2, c3, c4, c5⟩ := acts_at hs hb HC.out hlt
            have hbo : b < wr.heap.size := Nat.lt_of_lt_of_le hb hs.size
            have hk0 : P5 la[k] b (off + k * 6) wr wr := ⟨c1, c2, c3, c4, c5, Below.refl _ _⟩
            have KW : Hid (∀ W, P5 la[k] b (off + k * 6) wr W → Calls Try.prog 18 #[u7, .agg #[.bool la[k].n.a.v6, .int .u64 la[k].n.a.hi, .int .u64 la[k].n.a.lo, .int .i64 la[k].n.n], .int .i64 la[k].v] W fun e w' => ∃ u, e = .returned u ∧ T.Is w' u (withH (fill [] (la.take k)) la[k].n la[k].v) ∧ P5 la[k] b (off + k * 6) wr w') := Lib.hid fun W h => (T.put u7 _ la[k].n la[k].v W (T.below HIa.out h.2.2.2.2.2) (by simp at hL1; omega) hxo.1 hxo.2.1 hxo.2.2).mono fun e w' ⟨u, he, hu, hb⟩ => ⟨u, he, hu, P5.of ⟨c1, c2, c3, c4, c5⟩ hbo (low_trans h.2.2.2.2.2 hb)⟩
            have JD : Hid (∀ W, P5 la[k] b (off + k * 6) wr W → P5 la[k] b (off + k * 6) wr W.drew) := Lib.hid fun W h => P5.of ⟨c1, c2, c3, c4, c5⟩ hbo (low_drewN h.2.2.2.2.2 1)
            go_wp2_with fail
            go_region_held3 (fun w' => w'.cell? ⟨b, off + k * 6 + 1, none⟩ = some (.bool la[k].n.a.v6) ∧ w'.cell? ⟨b, off + k * 6 + 2, none⟩ = some (.int .u64 la[k].n.a.hi) ∧ w'.cell? ⟨b, off + k * 6 + 3, none⟩ = some (.int .u64 la[k].n.a.lo) ∧ w'.cell? ⟨b, off + k * 6 + 4, none⟩ = some (.int .i64 la[k].n.n) ∧ w'.cell? ⟨b, off + k * 6 + 5, none⟩ = some (.int .i64 la[k].v) ∧ Stays wr w')
              (first | assumption | exact JD.out _ ‹_›)
              (first | (go_at_call 18; (with_reducible refine (KW.out _ ‹_›).mono ?_); rintro e w3 ⟨a', rfl, ha', hk3⟩))
            have hs3 := hk3.2.2.2.2.2
            have HIb3 := Lib.hid (T.below HIb.out hs3)
            have HIa3 : Hid (T.Is w3 a' (fill [] (la.take (k + 1)))) := Lib.hid (by rw [List.take_succ_eq_append_getElem hlt, fill_snoc]; exact ha')
            have HS3 := Lib.hid (low_trans hs hs3)
            clear ha' hk3 hs3 hk0 c1 c2 c3 c4 c5 JD KW hxo
            obtain ⟨r, hr⟩ : ∃ r : Nat, r = (k + mm) % la.length := ⟨_, rfl⟩
            have hrl : r < la.length := by rw [hr]; exact Nat.mod_lt _ hpos
            obtain ⟨kk, hkk⟩ : ∃ kk : Nat, kk = back la.length mm k := ⟨_, rfl⟩
            have hkl : kk < la.length := by rw [hkk]; exact back_lt hpos
            have e2 : (la.length : Int) - 1 - (r : Int) = (kk : Int) := by rw [hkk]; unfold back; rw [← hr]; omega
            have e1 : (((k : Nat) : Int) + ((mm : Nat) : Int)).tmod (la.length : Int) = (r : Int) := by rw [hr, Int.tmod_eq_emod_of_nonneg (by omega)]; rw [Int.natCast_emod, Int.natCast_add]
            have HKK := Lib.hid hkk
            clear hr hkk
            have hyo := hokH.out la[kk] (List.getElem_mem hkl)
            obtain ⟨_, c1, c2, c3, c4, c5⟩ := acts_at HS3.out hb HC.out hkl
            have hbo3 : b < w3.heap.size := Nat.lt_of_lt_of_le hb HS3.out.size
            have hk4 : P5 la[kk] b (off + kk * 6) w3 w3 := ⟨c1, c2, c3, c4, c5, Below.refl _ _⟩
            have KV : Hid (∀ W, P5 la[kk] b (off + kk * 6) w3 W → Calls Try.prog 18 #[u8, .agg #[.bool la[kk].n.a.v6, .int .u64 la[kk].n.a.hi, .int .u64 la[kk].n.a.lo, .int .i64 la[kk].n.n], .int .i64 la[kk].v] W fun e w' => ∃ u, e = .returned u ∧ T.Is w' u (withH (fill [] (turnedA la mm k)) la[kk].n la[kk].v) ∧ P5 la[kk] b (off + kk * 6) w3 w') := Lib.hid fun W h => (T.put u8 _ la[kk].n la[kk].v W (T.below HIb3.out h.2.2.2.2.2) (by simp at hL2; omega) hyo.1 hyo.2.1 hyo.2.2).mono fun e w' ⟨u, he, hu, hb⟩ => ⟨u, he, hu, P5.of ⟨c1, c2, c3, c4, c5⟩ hbo3 (low_trans h.2.2.2.2.2 hb)⟩
            have JV : Hid (∀ W, P5 la[kk] b (off + kk * 6) w3 W → P5 la[kk] b (off + kk * 6) w3 W.drew) := Lib.hid fun W h => P5.of ⟨c1, c2, c3, c4, c5⟩ hbo3 (low_drewN h.2.2.2.2.2 1)
            go_wp2_with fail
            go_region_held3 (fun w' => w'.cell? ⟨b, off + kk * 6 + 1, none⟩ = some (.bool la[kk].n.a.v6) ∧ w'.cell? ⟨b, off + kk * 6 + 2, none⟩ = some (.int .u64 la[kk].n.a.hi) ∧ w'.cell? ⟨b, off + kk * 6 + 3, none⟩ = some (.int .u64 la[kk].n.a.lo) ∧ w'.cell? ⟨b, off + kk * 6 + 4, none⟩ = some (.int .i64 la[kk].n.n) ∧ w'.cell? ⟨b, off + kk * 6 + 5, none⟩ = some (.int .i64 la[kk].v) ∧ Stays w3 w')
              (first | assumption | exact JV.out _ ‹_›)
              (first | (go_at_call 18; (with_reducible refine (KV.out _ ‹_›).mono ?_); rintro e w4 ⟨b', rfl, hb', hk5⟩))
            have hs4 := hk5.2.2.2.2.2
            have G1 := Lib.hid (T.below HIa3.out hs4)
            have G2 : Hid (T.Is w4 b' (fill [] (turnedA la mm (k + 1)))) := Lib.hid (by
              have e := HKK.out
              subst e
              rw [turnedA_next _ _ _ (back_lt hpos), fill_snoc]; exact hb')
            have G3 := Lib.hid (low_trans HS3.out hs4)
            clear hb' hk5 hs4 hk4 c1 c2 c3 c4 c5 KV JV hyo
            go_wp2_with fail
            go_roundw
            case rel => exact ⟨k + 1, by omega, by go_num, G1, G2, G3.out⟩
            case measure => simp [intOf]; omega
          · obtain ⟨L, hL⟩ : ∃ L, L = fill [] la := ⟨_, rfl⟩
            have hLl : L.length ≤ 60 := by have := fill_len la []; rw [hL]; simp at this; omega
            have HIa2 : Hid (T.Is wr u7 L) := by
              have := HIa
              rw [List.take_of_length_le (by omega)] at this
              rw [hL]; exact this
            have HIb2 : Hid (T.Is wr u8 L) := by
              have := HIb
              rw [show k = la.length by omega, fill_turned hmm HU.out] at this
              rw [hL]; exact this
            have AL := Lib.hid (T.all u7 L wr HIa2.out (by omega))
            have HSr := Lib.hid hs
            clear hL HIa HIb hs
            go_wp2_with fail
            (with_reducible refine AL.out.mono ?_)
            rintro e w6 ⟨now, rfl, hnow0, hb6⟩
            have AL2 := Lib.hid (T.all u8 L w6 (T.below HIb2.out hb6) (by omega))
            have HN6 := Lib.hid hnow0
            have HIa6 := Lib.hid (T.below HIa2.out hb6)
            have HB6 := Lib.hid (low_trans HSr.out hb6)
            obtain ⟨An, cn, rfl, hn2, _, _⟩ := id hnow0
            clear hnow0 hb6 AL
            go_wp2_with fail
            (with_reducible refine AL2.out.mono ?_)
            rintro e w7 ⟨was, rfl, hwas0, hb7⟩
            have LE := Lib.hid (T.len u7 L w7 (T.below HIa6.out hb7) (by omega))
            have HN7 := Lib.hid (HN6.out.below hb7)
            have HW7 := Lib.hid hwas0
            have HB7 := Lib.hid (low_trans HB6.out hb7)
            obtain ⟨Aw, cw, rfl, hw2, _, _⟩ := id hwas0
            have e1 : (((L.length : Nat) : Int) != ((L.length : Nat) : Int)) = false := by simp
            clear hwas0 hb7 AL2
            go_wp2_with fail
            (with_reducible refine LE.out.mono ?_)
            rintro e wB ⟨rfl, hb8⟩
            have hnow := HN7.out.below hb8
            have hwas := HW7.out.below hb8
            have HBB := Lib.hid (low_trans HB7.out hb8)
            obtain ⟨_, _, en, _, _, hncell⟩ := hnow
            obtain ⟨_, _, ew, _, _, hwcell⟩ := hwas
            simp only [Value.slice.injEq, true_and] at en ew
            obtain ⟨rfl, rfl⟩ := en
            obtain ⟨rfl, rfl⟩ := ew
            have HA := Lib.hid hncell
            have HW := Lib.hid hwcell
            have NQ := Lib.hid (fun (k : Nat) (hk : k < L.length) W => neqHit L[k] L[k] W)
            obtain ⟨wv, hwv⟩ : ∃ W, W = wr := ⟨_, rfl⟩
            clear hncell hwcell hb8
            subst hwv
            go_wp2_with fail
            go_loopw [13] (fun i wr => ∃ k : Nat, k ≤ L.length ∧ i = .int .i64 k ∧ Stays wB wr) (fun i _ => L.length - (intOf i).toNat)
            case atStart => exact ⟨0, Nat.zero_le _, rfl, Below.refl _ _⟩
            case round =>
              obtain ⟨k, hk, rfl, hs⟩ := hrel
              by_cases hlt : k < L.length
              · obtain ⟨b, o, rfl, hb, hcc⟩ := HA.out (by omega)
                obtain ⟨b', o', rfl, hb', hcc'⟩ := HW.out (by omega)
                obtain ⟨c0, c1, c2, c3, c4⟩ := hit_cells (fun i h j u hu => (hs.cell (p := ⟨b, o + i * 5 + j, none⟩) hb).trans (hcc i h j u hu)) hlt
                obtain ⟨d0, d1, d2, d3, d4⟩ := hit_cells (fun i h j u hu => (hs.cell (p := ⟨b', o' + i * 5 + j, none⟩) hb').trans (hcc' i h j u hu)) hlt
                have N1 := NQ.out k hlt
                have hsm := sameH_self L[k]
                simp only [hsm, Bool.not_true] at N1
                clear hcc hcc' hsm
                have hb3 : b < wr.heap.size := Nat.lt_of_lt_of_le hb hs.size
                have hb4 : b' < wr.heap.size := Nat.lt_of_lt_of_le hb' hs.size
                go_wp2_with fail
                have hne : Nonempty (Cls (Stays wr)) := ⟨⟨wr, Below.refl _ _⟩⟩
                have f0 : ∀ q : Cls (Stays wr), q.w.cell? ⟨b, o + k * 5, none⟩ = some (.bool L[k].n.a.v6) := fun q => (Below.cell (p := ⟨b, o + k * 5, none⟩) q.h hb3).trans c0
                have f1 : ∀ q : Cls (Stays wr), q.w.cell? ⟨b, o + k * 5 + 1, none⟩ = some (.int .u64 L[k].n.a.hi) := fun q => (Below.cell (p := ⟨b, o + k * 5 + 1, none⟩) q.h hb3).trans c1
                have f2 : ∀ q : Cls (Stays wr), q.w.cell? ⟨b, o + k * 5 + 2, none⟩ = some (.int .u64 L[k].n.a.lo) := fun q => (Below.cell (p := ⟨b, o + k * 5 + 2, none⟩) q.h hb3).trans c2
                have f3 : ∀ q : Cls (Stays wr), q.w.cell? ⟨b, o + k * 5 + 3, none⟩ = some (.int .i64 L[k].n.n) := fun q => (Below.cell (p := ⟨b, o + k * 5 + 3, none⟩) q.h hb3).trans c3
                have f4 : ∀ q : Cls (Stays wr), q.w.cell? ⟨b, o + k * 5 + 4, none⟩ = some (.int .i64 L[k].v) := fun q => (Below.cell (p := ⟨b, o + k * 5 + 4, none⟩) q.h hb3).trans c4
                have f5 : ∀ q : Cls (Stays wr), q.w.cell? ⟨b', o' + k * 5, none⟩ = some (.bool L[k].n.a.v6) := fun q => (Below.cell (p := ⟨b', o' + k * 5, none⟩) q.h hb4).trans d0
                have f6 : ∀ q : Cls (Stays wr), q.w.cell? ⟨b', o' + k * 5 + 1, none⟩ = some (.int .u64 L[k].n.a.hi) := fun q => (Below.cell (p := ⟨b', o' + k * 5 + 1, none⟩) q.h hb4).trans d1
                have f7 : ∀ q : Cls (Stays wr), q.w.cell? ⟨b', o' + k * 5 + 2, none⟩ = some (.int .u64 L[k].n.a.lo) := fun q => (Below.cell (p := ⟨b', o' + k * 5 + 2, none⟩) q.h hb4).trans d2
                have f8 : ∀ q : Cls (Stays wr), q.w.cell? ⟨b', o' + k * 5 + 3, none⟩ = some (.int .i64 L[k].n.n) := fun q => (Below.cell (p := ⟨b', o' + k * 5 + 3, none⟩) q.h hb4).trans d3
                have f9 : ∀ q : Cls (Stays wr), q.w.cell? ⟨b', o' + k * 5 + 4, none⟩ = some (.int .i64 L[k].v) := fun q => (Below.cell (p := ⟨b', o' + k * 5 + 4, none⟩) q.h hb4).trans d4
                refine Cls.region (Stays wr) (by kernel_rfl) (by kernel_rfl) (low_drewN (Below.refl _ _) 1) ?_
                repeat (go_big_quiet_step (first | fail))
                refine wpQuiet_nil ?_
                intro n9
                have hs9 := n9.h
                generalize n9.w = w9 at hs9 ⊢
                clear hne n9 f0 f1 f2 f3 f4 f5 f6 f7 f8 f9
                have HB9 := Lib.hid (low_trans hs hs9)
                go_wp2_with fail
                go_roundw
                case rel => exact ⟨k + 1, by omega, by go_num, HB9.out⟩
                case measure => simp [intOf]; omega
              · go_wp2_with fail
                (with_reducible refine (T2.out _).mono ?_)
                rintro e w9 ⟨rfl, hb⟩
                have HB9 := Lib.hid (low_trans HBB.out (low_trans hs hb))
                clear hb
                go_wp2_with fail
                go_ret
                exact ⟨rfl, HB9.out⟩
theorem form_walk (T : TrieApi) (w : World) (v : Value) (la : List Act) (m : Int) (h : Acts w v la) (hok : ∀ x ∈ la, x.ok) (hm1 : -9223372036854775808 ≤ m) (hm2 : m ≤ 9223372036854775807) :
    Calls Try.prog 5 #[v, .int .i64 m] w fun e w' => e = .returned (.bool true) ∧ Below w.heap.size w w' := by
  by_cases hl : la.length ≤ 60 ∧ 0 < la.length
  · exact form_in T w v la m h hok hl.1 hl.2 hm1 hm2
  · exact form_out T w v la m h (by omega)
end Go.Proofs.Ytgnpnmdndlodlaa.Tr
