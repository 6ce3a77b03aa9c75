/- The first statement of layer 11: behind any acts a tree tells what the list of its subnets does; for all acts, addresses and subnets. -/
import Derived.Test.YtgnpnmdndlodlaaTrieAll
import Derived.Test.YtgnpnmdndlodlaaCidrDoor
namespace Go.Proofs.Ytgnpnmdndlodlaa.Tr
set_option maxRecDepth 100000
open Go.ChangeShapes Go.WideShapes Go.ChangeAt Go.RowKit
open Dec Words V4 V6 Ad Ci
set_option linter.unusedVariables false
abbrev PL (x : Act) (a : Adr) (n : Net) (b o : Nat) (w wr w' : World) : Prop := w'.cell? ⟨b, o, none⟩ = some (.int .i64 x.kind) ∧ w'.cell? ⟨b, o + 1, none⟩ = some (.bool x.n.a.v6) ∧ w'.cell? ⟨b, o + 2, none⟩ = some (.int .u64 x.n.a.hi) ∧ w'.cell? ⟨b, o + 3, none⟩ = some (.int .u64 x.n.a.lo) ∧ w'.cell? ⟨b, o + 4, none⟩ = some (.int .i64 x.n.n) ∧ w'.cell? ⟨b, o + 5, none⟩ = some (.int .i64 x.v) ∧ w'.cell? ⟨w.heap.size, 0, none⟩ = some (.bool a.v6) ∧ w'.cell? ⟨w.heap.size, 1, none⟩ = some (.int .u64 a.hi) ∧ w'.cell? ⟨w.heap.size, 2, none⟩ = some (.int .u64 a.lo) ∧ w'.cell? ⟨w.heap.size + 1, 0, none⟩ = some (.bool n.a.v6) ∧ w'.cell? ⟨w.heap.size + 1, 1, none⟩ = some (.int .u64 n.a.hi) ∧ w'.cell? ⟨w.heap.size + 1, 2, none⟩ = some (.int .u64 n.a.lo) ∧ w'.cell? ⟨w.heap.size + 1, 3, none⟩ = some (.int .i64 n.n) ∧ Stays wr w'
theorem PL.on {x : Act} {a : Adr} {n : Net} {b o : Nat} {w wr w1 : World} (h : PL x a n b o w wr wr) (hb : b < wr.heap.size) (hw : w.heap.size + 1 < wr.heap.size) (k : Stays wr w1) : PL x a n b o w wr w1 :=
  ⟨(Below.cell (p := ⟨b, o, none⟩) k hb).trans h.1, (Below.cell (p := ⟨b, o + 1, none⟩) k hb).trans h.2.1, (Below.cell (p := ⟨b, o + 2, none⟩) k hb).trans h.2.2.1, (Below.cell (p := ⟨b, o + 3, none⟩) k hb).trans h.2.2.2.1, (Below.cell (p := ⟨b, o + 4, none⟩) k hb).trans h.2.2.2.2.1, (Below.cell (p := ⟨b, o + 5, none⟩) k hb).trans h.2.2.2.2.2.1, (Below.cell (p := ⟨w.heap.size, 0, none⟩) k (by show w.heap.size < _; omega)).trans h.2.2.2.2.2.2.1, (Below.cell (p := ⟨w.heap.size, 1, none⟩) k (by show w.heap.size < _; omega)).trans h.2.2.2.2.2.2.2.1, (Below.cell (p := ⟨w.heap.size, 2, none⟩) k (by show w.heap.size < _; omega)).trans h.2.2.2.2.2.2.2.2.1, (Below.cell (p := ⟨w.heap.size + 1, 0, none⟩) k (by show w.heap.size + 1 < _; omega)).trans h.2.2.2.2.2.2.2.2.2.1, (Below.cell (p := ⟨w.heap.size + 1, 1, none⟩) k (by show w.heap.size + 1 < _; omega)).trans h.2.2.2.2.2.2.2.2.2.2.1, (Below.cell (p := ⟨w.heap.size + 1, 2, none⟩) k (by show w.heap.size + 1 < _; omega)).trans h.2.2.2.2.2.2.2.2.2.2.2.1, (Below.cell (p := ⟨w.heap.size + 1, 3, none⟩) k (by show w.heap.size + 1 < _; omega)).trans h.2.2.2.2.2.2.2.2.2.2.2.2.1, k⟩
theorem PL.base {x : Act} {a : Adr} {n : Net} {b o : Nat} {w wr w1 : World} (h : PL x a n b o w wr w1) : PL x a n b o w w1 w1 := ⟨h.1, h.2.1, h.2.2.1, h.2.2.2.1, h.2.2.2.2.1, h.2.2.2.2.2.1, h.2.2.2.2.2.2.1, h.2.2.2.2.2.2.2.1, h.2.2.2.2.2.2.2.2.1, h.2.2.2.2.2.2.2.2.2.1, h.2.2.2.2.2.2.2.2.2.2.1, h.2.2.2.2.2.2.2.2.2.2.2.1, h.2.2.2.2.2.2.2.2.2.2.2.2.1, Below.refl _ _⟩
set_option maxHeartbeats 4000000 in
theorem plays_long (T : TrieApi) (w : World) (v : Value) (la : List Act) (h : Acts w v la) (hl : 60 < la.length) (a : Adr) (n : Net) :
    Calls Try.prog 3 #[v, .agg #[.bool a.v6, .int .u64 a.hi, .int .u64 a.lo], .agg #[.bool n.a.v6, .int .u64 n.a.hi, .int .u64 n.a.lo, .int .i64 n.n]] w fun e w' => e = .returned (.bool true) ∧ Below w.heap.size w w' := by
  obtain ⟨A, c, rfl, _, _, _⟩ := h
  have hd : (60 : Int) < (la.length : Int) := by omega
  have T2 := Lib.hid (awake11_any T)
  go_enter Try.func3, Try.ntmps3
  go_wp2_with fail
  (with_reducible refine (T2.out _).mono ?_)
  rintro e w1 ⟨rfl, hb⟩
  have HB : Hid (Below w.heap.size w w1) := Lib.hid ((((Below.refl _ _).alloc (Nat.le_refl _) _).alloc (by simp) _).trans (hb.mono (by simp; omega)))
  clear hb
  go_wp2_with fail
  go_ret
  exact ⟨rfl, HB.out⟩
set_option maxHeartbeats 16000000 in
theorem plays_short (T : TrieApi) (w : World) (v : Value) (la : List Act) (h : Acts w v la) (hok : ∀ x ∈ la, x.ok) (hl : la.length ≤ 60) (a : Adr) (ha : a.ok) (n : Net) (hn : n.ok) :
    Calls Try.prog 3 #[v, .agg #[.bool a.v6, .int .u64 a.hi, .int .u64 a.lo], .agg #[.bool n.a.v6, .int .u64 n.a.hi, .int .u64 n.a.lo, .int .i64 n.n]] w fun e w' => e = .returned (.bool true) ∧ Below w.heap.size w w' := by
  obtain ⟨A, c, rfl, hc, _, hcell⟩ := h
  have HC := Lib.hid hcell
  have hokH := Lib.hid hok
  have T2 := Lib.hid (awake11_any T)
  have NW := Lib.hid (fun W => T.new W)
  have hb0 : Below w.heap.size w ((w.alloc (.cells #[.bool a.v6, .int .u64 a.hi, .int .u64 a.lo] 25)).alloc (.cells #[.bool n.a.v6, .int .u64 n.a.hi, .int .u64 n.a.lo, .int .i64 n.n] 27)) := ((Below.refl _ _).alloc (Nat.le_refl _) _).alloc (by simp) _
  have HB0 := Lib.hid hb0
  have hd : (la.length : Int) ≤ 60 := by omega
  clear hcell hok hb0
  go_enter Try.func3, Try.ntmps3
  go_wp2_with fail
  (with_reducible refine (NW.out _).mono ?_)
  rintro e w1 ⟨t0, rfl, ht0, hb1⟩
  have HT0 := Lib.hid ht0
  have HB1 := Lib.hid hb1
  clear ht0 hb1 NW
  go_wp2_with fail
  go_loopw [7, 8, 9] (fun t q i wr => ∃ k : Nat, k ≤ la.length ∧ i = .int .i64 k ∧ Hid (T.Is wr t (play [] (la.take k))) ∧ Hid (Hits wr q (play [] (la.take k))) ∧ Stays ((w.alloc (.cells #[.bool a.v6, .int .u64 a.hi, .int .u64 a.lo] 25)).alloc (.cells #[.bool n.a.v6, .int .u64 n.a.hi, .int .u64 n.a.lo, .int .i64 n.n] 27)) wr) (fun _ _ i _ => la.length - (intOf i).toNat)
  case atStart => exact ⟨0, Nat.zero_le _, rfl, HT0, Lib.hid (Recs.nil _ _ _), HB1.out⟩
  case round =>
    obtain ⟨k, hk, rfl, HI, HQ, hs⟩ := hrel
    by_cases hlt : k < la.length
    · obtain ⟨b, off, rfl, hb, hcc⟩ := HC.out (by omega)
      have hlow := low_trans HB0.out hs
      obtain ⟨x, hx⟩ : ∃ x, x = la[k] := ⟨_, rfl⟩
      have hxo : x.ok := by rw [hx]; exact hokH.out la[k] (List.getElem_mem hlt)
      obtain ⟨q0, q1, q2, q3, q4, q5⟩ := act_cells (fun i h j u hu => (hlow.cell (p := ⟨b, off + i * 6 + j, none⟩) hb).trans (hcc i h j u hu)) hlt
      rw [← hx] at q0 q1 q2 q3 q4 q5
      obtain ⟨ra0, ra1, ra2⟩ : wr.cell? ⟨w.heap.size, 0, none⟩ = some (.bool a.v6) ∧ wr.cell? ⟨w.heap.size, 1, none⟩ = some (.int .u64 a.hi) ∧ wr.cell? ⟨w.heap.size, 2, none⟩ = some (.int .u64 a.lo) := ⟨Ci.cells_left hs (by simp [go_sem]), Ci.cells_left hs (by simp [go_sem]), Ci.cells_left hs (by simp [go_sem])⟩
      obtain ⟨rn0, rn1, rn2, rn3⟩ : wr.cell? ⟨w.heap.size + 1, 0, none⟩ = some (.bool n.a.v6) ∧ wr.cell? ⟨w.heap.size + 1, 1, none⟩ = some (.int .u64 n.a.hi) ∧ wr.cell? ⟨w.heap.size + 1, 2, none⟩ = some (.int .u64 n.a.lo) ∧ wr.cell? ⟨w.heap.size + 1, 3, none⟩ = some (.int .i64 n.n) := ⟨Ci.cells_left hs (by simp [go_sem]), Ci.cells_left hs (by simp [go_sem]), Ci.cells_left hs (by simp [go_sem]), Ci.cells_left hs (by simp [go_sem])⟩
      have hk0 : PL x a n b (off + k * 6) w wr wr := ⟨q0, q1, q2, q3, q4, q5, ra0, ra1, ra2, rn0, rn1, rn2, rn3, Below.refl _ _⟩
      have hsz : w.heap.size + 2 ≤ wr.heap.size := by have := hs.size; simpa using this
      have hpl := play_len la k (by omega)
      have hLok' := play_ok la hokH.out (k + 1) (by omega)
      have hLok0 := Lib.hid (play_ok la hokH.out k (by omega))
      have hps := play_snoc [] la k hlt
      have hpl' := play_len la (k + 1) (by omega)
      rw [← hx] at hps
      obtain ⟨L, hL⟩ : ∃ L, L = play [] (la.take k) := ⟨_, rfl⟩
      obtain ⟨L', hL'⟩ : ∃ L', L' = play [] (la.take (k + 1)) := ⟨_, rfl⟩
      rw [← hL'] at hLok' hps hpl'
      rw [← hL] at HI HQ hps hpl hLok0
      have hLok := Lib.hid hLok'
      have HL' := Lib.hid hL'
      have HX := Lib.hid hx
      have HPS := Lib.hid hps
      have DO := Lib.hid (does_any T u7 L x wr HI.out (by omega) hxo)
      clear hcc ra0 ra1 ra2 rn0 rn1 rn2 rn3 hL hL' hlow hLok' hps hx
      go_wp2_with fail
      (with_reducible refine DO.out.mono ?_)
      rintro e w2 ⟨t', rfl, hi2', hb2w⟩
      have hk2 := (hk0.on (by omega) (by omega) hb2w).base
      have hsz2 := hb2w.size
      have HQ2 := Lib.hid (HQ.out.below hb2w)
      have HI2 := Lib.hid hi2'
      clear q0 q1 q2 q3 q4 q5 hk0 hi2' DO HQ HI
      have ON2 : Hid (∀ W1 W, PL x a n b (off + k * 6) w w2 W1 → Below W1.heap.size W1 W → PL x a n b (off + k * 6) w w2 W) := Lib.hid fun W1 W h hb => hk2.on (by omega) (by omega) (low_trans h.2.2.2.2.2.2.2.2.2.2.2.2.2 hb)
      obtain ⟨p0, p1, p2, p3, p4, p5, p6, p7, p8, p9, p10, p11, p12, hs_p⟩ := id hk2
      cases hkind : (x.kind == 0)
      · have hd0 : doA L x = cut L x.n := by unfold doA; rw [if_neg (by simpa using hkind)]
        have KW : Hid (∀ W, PL x a n b (off + k * 6) w w2 W → Calls Try.prog 10 #[u8, .agg #[.bool x.n.a.v6, .int .u64 x.n.a.hi, .int .u64 x.n.a.lo, .int .i64 x.n.n]] W fun e w' => ∃ u, e = .returned u ∧ Hits w' u L' ∧ Below W.heap.size W w') := Lib.hid fun W h => (hcut_any u8 L x.n W (HQ2.out.below h.2.2.2.2.2.2.2.2.2.2.2.2.2) (by omega)).mono fun e w' ⟨u, he, hu, hb⟩ => ⟨u, he, by rw [HPS.out, hd0]; exact hu, hb⟩
        go_wp2_with fail
        (with_reducible refine (KW.out _ hk2).mono ?_)
        rintro e wB ⟨q', rfl, hq3', hbB3⟩
        have hi3 := T.below HI2.out hbB3
        rw [← HPS.out] at hi3
        have hszB := hbB3.size
        have hk3 := ON2.out _ _ hk2 hbB3
        clear p0 p1 p2 p3 p4 p5 p6 p7 p8 p9 p10 p11 p12 hs_p hkind hd0 KW
        obtain ⟨Aq, cq, rfl, hq2, hq3, hq4⟩ := id hq3'
        have hqh := Lib.hid hq3'
        have hLl : L'.length ≤ 100 := by omega
        have hCl := Lib.hid (show (cover L' a).length ≤ 1000000 from Nat.le_trans (outer_le L' a (bitsA a + 1)) (Nat.le_trans (Nat.mul_le_mul (show bitsA a + 1 ≤ 129 by have := bitsA_two a; omega) hLl) (by decide)))
        have hPB : PL x a n b (off + k * 6) w wB wB := hk3.base
        have hbB : b < wB.heap.size := by omega
        have hwB : w.heap.size + 1 < wB.heap.size := by omega
        have ON : Hid (∀ W1 W, PL x a n b (off + k * 6) w wB W1 → Below W1.heap.size W1 W → PL x a n b (off + k * 6) w wB W) := Lib.hid fun W1 W h hb => hPB.on hbB hwB (low_trans h.2.2.2.2.2.2.2.2.2.2.2.2.2 hb)
        have JD : Hid (∀ W, PL x a n b (off + k * 6) w wB W → PL x a n b (off + k * 6) w wB W.drew) := Lib.hid fun W h => hPB.on hbB hwB (low_drewN h.2.2.2.2.2.2.2.2.2.2.2.2.2 1)
        have JA : Hid (∀ W o', PL x a n b (off + k * 6) w wB W → PL x a n b (off + k * 6) w wB (W.alloc o')) := Lib.hid fun W o' h => hPB.on hbB hwB (Below.alloc h.2.2.2.2.2.2.2.2.2.2.2.2.2 (Below.size h.2.2.2.2.2.2.2.2.2.2.2.2.2) o')
        have G1 : Hid (∀ W, PL x a n b (off + k * 6) w wB W → Calls Try.prog 11 #[t', .agg #[.bool n.a.v6, .int .u64 n.a.hi, .int .u64 n.a.lo, .int .i64 n.n]] W fun e w' => e = .returned (.tuple #[.int .i64 (getV L' n), .bool (getB L' n)]) ∧ PL x a n b (off + k * 6) w wB w') := Lib.hid fun W h => (T.get t' L' n W (T.below hi3 h.2.2.2.2.2.2.2.2.2.2.2.2.2) (by omega) hn).mono fun e w' ⟨he, hb⟩ => ⟨he, ON.out _ _ h hb⟩
        have G2 : Hid (∀ W, PL x a n b (off + k * 6) w wB W → Calls Try.prog 12 #[.slice Aq L'.length cq, .agg #[.bool n.a.v6, .int .u64 n.a.hi, .int .u64 n.a.lo, .int .i64 n.n]] W fun e w' => e = .returned (.tuple #[.int .i64 (getV L' n), .bool (getB L' n)]) ∧ PL x a n b (off + k * 6) w wB w') := Lib.hid fun W h => (rget_any _ L' n W (hqh.out.below h.2.2.2.2.2.2.2.2.2.2.2.2.2) (by omega)).mono fun e w' ⟨he, hb⟩ => ⟨he, ON.out _ _ h hb⟩
        have LE : Hid (∀ W, PL x a n b (off + k * 6) w wB W → Calls Try.prog 13 #[t'] W fun e w' => e = .returned (.int .i64 (L'.length : Nat)) ∧ PL x a n b (off + k * 6) w wB w') := Lib.hid fun W h => (T.len t' L' W (T.below hi3 h.2.2.2.2.2.2.2.2.2.2.2.2.2) (by omega)).mono fun e w' ⟨he, hb⟩ => ⟨he, ON.out _ _ h hb⟩
        have AL : Hid (∀ W, PL x a n b (off + k * 6) w wB W → Calls Try.prog 15 #[t'] W fun e w' => ∃ u, e = .returned u ∧ Hits w' u L' ∧ PL x a n b (off + k * 6) w wB w') := Lib.hid fun W h => (T.all t' L' W (T.below hi3 h.2.2.2.2.2.2.2.2.2.2.2.2.2) (by omega)).mono fun e w' ⟨u, he, hu, hb⟩ => ⟨u, he, hu, ON.out _ _ h hb⟩
        have S1 : Hid (∀ W u, Hits W u L' → ∀ _ : True, PL x a n b (off + k * 6) w wB W → Calls Try.prog 14 #[u, .slice Aq L'.length cq] W fun e w' => e = .returned (.bool true) ∧ PL x a n b (off + k * 6) w wB w') := Lib.hid fun W u hu _ h => (same_one u _ L' W hu (hqh.out.below h.2.2.2.2.2.2.2.2.2.2.2.2.2) (by omega)).mono fun e w' ⟨he, hb⟩ => ⟨he, ON.out _ _ h hb⟩
        have CO : Hid (∀ W, PL x a n b (off + k * 6) w wB W → Calls Try.prog 16 #[t', .agg #[.bool a.v6, .int .u64 a.hi, .int .u64 a.lo]] W fun e w' => ∃ u, e = .returned u ∧ Hits w' u (cover L' a) ∧ PL x a n b (off + k * 6) w wB w') := Lib.hid fun W h => (T.cov t' L' a W (T.below hi3 h.2.2.2.2.2.2.2.2.2.2.2.2.2) (by omega) ha).mono fun e w' ⟨u, he, hu, hb⟩ => ⟨u, he, hu, ON.out _ _ h hb⟩
        have RC : Hid (∀ W, PL x a n b (off + k * 6) w wB W → Calls Try.prog 17 #[.slice Aq L'.length cq, .agg #[.bool a.v6, .int .u64 a.hi, .int .u64 a.lo]] W fun e w' => ∃ u, e = .returned u ∧ Hits w' u (cover L' a) ∧ Below W.heap.size W w' ∧ PL x a n b (off + k * 6) w wB w') := Lib.hid fun W h => (rcover_any _ L' a W (hqh.out.below h.2.2.2.2.2.2.2.2.2.2.2.2.2) (by omega) hLok.out ha).mono fun e w' ⟨u, he, hu, hb⟩ => ⟨u, he, hu, hb, ON.out _ _ h hb⟩
        have S2 : Hid (∀ W u u2, Hits W u (cover L' a) → Hits W u2 (cover L' a) → ∀ _ : True, PL x a n b (off + k * 6) w wB W → Calls Try.prog 14 #[u, u2] W fun e w' => e = .returned (.bool true) ∧ PL x a n b (off + k * 6) w wB w') := Lib.hid fun W u u2 hu hu2 _ h => (same_one u u2 (cover L' a) W hu hu2 hCl.out).mono fun e w' ⟨he, hb⟩ => ⟨he, ON.out _ _ h hb⟩
        have HQB : Hid (Hits wB (.slice Aq L'.length cq) L') := hqh
        have HIB : Hid (T.Is wB t' L') := Lib.hid hi3
        have e1 : (((L'.length : Nat) : Int) != ((L'.length : Nat) : Int)) = false := by simp
        have e2 : (getV L' n != getV L' n) = false := by simp
        have e3 : (!(getB L' n == getB L' n)) = false := by simp
        have hSW : Hid (Stays ((w.alloc (.cells #[.bool a.v6, .int .u64 a.hi, .int .u64 a.lo] 25)).alloc (.cells #[.bool n.a.v6, .int .u64 n.a.hi, .int .u64 n.a.lo, .int .i64 n.n] 27)) wB) := Lib.hid (low_trans hs (low_trans hb2w hbB3))
        clear hq2 hq3 hq4 hq3' hi3 hk3 hs hb2w hbB3
        obtain ⟨p0, p1, p2, p3, p4, p5, p6, p7, p8, p9, p10, p11, p12, hs_p⟩ := id hPB
        go_wp2_with fail
        (with_reducible refine (G1.out _ hPB).mono ?_)
        rintro e w4 ⟨rfl, hk4⟩
        clear p0 p1 p2 p3 p4 p5 p6 p7 p8 p9 p10 p11 p12 hs_p
        obtain ⟨p0, p1, p2, p3, p4, p5, p6, p7, p8, p9, p10, p11, p12, hs_p⟩ := id hk4
        go_wp2_with fail
        (with_reducible refine (G2.out _ hk4).mono ?_)
        rintro e w5 ⟨rfl, hk5⟩
        clear p0 p1 p2 p3 p4 p5 p6 p7 p8 p9 p10 p11 p12 hs_p
        obtain ⟨p0, p1, p2, p3, p4, p5, p6, p7, p8, p9, p10, p11, p12, hs_p⟩ := id hk5
        go_wp2_with fail
        go_region_held3 (fun w' => w'.cell? ⟨b, off + k * 6, none⟩ = some (.int .i64 x.kind) ∧ w'.cell? ⟨b, off + k * 6 + 1, none⟩ = some (.bool x.n.a.v6) ∧ w'.cell? ⟨b, off + k * 6 + 2, none⟩ = some (.int .u64 x.n.a.hi) ∧ w'.cell? ⟨b, off + k * 6 + 3, none⟩ = some (.int .u64 x.n.a.lo) ∧ w'.cell? ⟨b, off + k * 6 + 4, none⟩ = some (.int .i64 x.n.n) ∧ w'.cell? ⟨b, off + k * 6 + 5, none⟩ = some (.int .i64 x.v) ∧ w'.cell? ⟨w.heap.size, 0, none⟩ = some (.bool a.v6) ∧ w'.cell? ⟨w.heap.size, 1, none⟩ = some (.int .u64 a.hi) ∧ w'.cell? ⟨w.heap.size, 2, none⟩ = some (.int .u64 a.lo) ∧ w'.cell? ⟨w.heap.size + 1, 0, none⟩ = some (.bool n.a.v6) ∧ w'.cell? ⟨w.heap.size + 1, 1, none⟩ = some (.int .u64 n.a.hi) ∧ w'.cell? ⟨w.heap.size + 1, 2, none⟩ = some (.int .u64 n.a.lo) ∧ w'.cell? ⟨w.heap.size + 1, 3, none⟩ = some (.int .i64 n.n) ∧ Stays wB w')
          (first | assumption | exact JD.out _ ‹_› | exact JA.out _ _ ‹_›)
          (first
            | (go_at_call 13; (with_reducible refine (LE.out _ ‹_›).mono ?_); rintro e w9 ⟨rfl, hkw⟩)
            | (go_at_call 15; (with_reducible refine (AL.out _ ‹_›).mono ?_); rintro e w9 ⟨u, rfl, hall, hkw⟩)
            | (go_at_call 16; (with_reducible refine (CO.out _ ‹_›).mono ?_); rintro e w9 ⟨u, rfl, hcov, hkw⟩)
            | (go_at_call 17; (with_reducible refine (RC.out _ ‹_›).mono ?_); rintro e w9 ⟨u, rfl, hrc, hbb, hkw⟩; have hcov2 := hcov.below hbb)
            | (go_at_call 14; first
              | ((with_reducible refine (S1.out _ _ hall trivial ‹_›).mono ?_); rintro e w9 ⟨rfl, hkw⟩)
              | ((with_reducible refine (S2.out _ _ _ hcov2 hrc trivial ‹_›).mono ?_); rintro e w9 ⟨rfl, hkw⟩)))
        have hkf := ‹PL x a n b (off + k * 6) w wB _›
        have F1 := Lib.hid (T.below HIB.out hkf.2.2.2.2.2.2.2.2.2.2.2.2.2)
        have F2 := Lib.hid (Eq.subst (motive := fun M => Hits _ (.slice Aq L'.length cq) M) HL'.out (HQB.out.below hkf.2.2.2.2.2.2.2.2.2.2.2.2.2))
        have F3 := Lib.hid (low_trans hSW.out hkf.2.2.2.2.2.2.2.2.2.2.2.2.2)
        rw [HL'.out] at F1
        clear hkf
        go_wp2_with fail
        go_roundw
        case rel => exact ⟨k + 1, by omega, by go_num, F1, F2, F3.out⟩
        case measure => simp [intOf]; omega
      · have hd0 : doA L x = withH L x.n x.v := by unfold doA; rw [if_pos (by simpa using hkind)]
        have KW : Hid (∀ W, PL x a n b (off + k * 6) w w2 W → Calls Try.prog 9 #[u8, .agg #[.bool x.n.a.v6, .int .u64 x.n.a.hi, .int .u64 x.n.a.lo, .int .i64 x.n.n], .int .i64 x.v] W fun e w' => ∃ u, e = .returned u ∧ Hits w' u L' ∧ PL x a n b (off + k * 6) w w2 w') := Lib.hid fun W h => (rwith_any u8 L x.n x.v W (HQ2.out.below h.2.2.2.2.2.2.2.2.2.2.2.2.2) (by omega) hLok0.out hxo.1).mono fun e w' ⟨u, he, hu, hb⟩ => ⟨u, he, by rw [HPS.out, hd0]; exact hu, ON2.out _ _ h hb⟩
        have JD2 : Hid (∀ W, PL x a n b (off + k * 6) w w2 W → PL x a n b (off + k * 6) w w2 W.drew) := Lib.hid fun W h => hk2.on (by omega) (by omega) (low_drewN h.2.2.2.2.2.2.2.2.2.2.2.2.2 1)
        go_wp2_with fail
        go_region_held3 (fun w' => w'.cell? ⟨b, off + k * 6, none⟩ = some (.int .i64 x.kind) ∧ w'.cell? ⟨b, off + k * 6 + 1, none⟩ = some (.bool x.n.a.v6) ∧ w'.cell? ⟨b, off + k * 6 + 2, none⟩ = some (.int .u64 x.n.a.hi) ∧ w'.cell? ⟨b, off + k * 6 + 3, none⟩ = some (.int .u64 x.n.a.lo) ∧ w'.cell? ⟨b, off + k * 6 + 4, none⟩ = some (.int .i64 x.n.n) ∧ w'.cell? ⟨b, off + k * 6 + 5, none⟩ = some (.int .i64 x.v) ∧ w'.cell? ⟨w.heap.size, 0, none⟩ = some (.bool a.v6) ∧ w'.cell? ⟨w.heap.size, 1, none⟩ = some (.int .u64 a.hi) ∧ w'.cell? ⟨w.heap.size, 2, none⟩ = some (.int .u64 a.lo) ∧ w'.cell? ⟨w.heap.size + 1, 0, none⟩ = some (.bool n.a.v6) ∧ w'.cell? ⟨w.heap.size + 1, 1, none⟩ = some (.int .u64 n.a.hi) ∧ w'.cell? ⟨w.heap.size + 1, 2, none⟩ = some (.int .u64 n.a.lo) ∧ w'.cell? ⟨w.heap.size + 1, 3, none⟩ = some (.int .i64 n.n) ∧ Stays w2 w')
          (first | assumption | exact JD2.out _ ‹_›)
          (first | (go_at_call 9; (with_reducible refine (KW.out _ ‹_›).mono ?_); rintro e wB ⟨q', rfl, hq3', hk3⟩))
        have hbB3 := hk3.2.2.2.2.2.2.2.2.2.2.2.2.2
        have hi3 := T.below HI2.out hbB3
        rw [← HPS.out] at hi3
        have hszB := hbB3.size
        clear p0 p1 p2 p3 p4 p5 p6 p7 p8 p9 p10 p11 p12 hs_p hkind hd0 KW
        obtain ⟨Aq, cq, rfl, hq2, hq3, hq4⟩ := id hq3'
        have hqh := Lib.hid hq3'
        have hLl : L'.length ≤ 100 := by omega
        have hCl := Lib.hid (show (cover L' a).length ≤ 1000000 from Nat.le_trans (outer_le L' a (bitsA a + 1)) (Nat.le_trans (Nat.mul_le_mul (show bitsA a + 1 ≤ 129 by have := bitsA_two a; omega) hLl) (by decide)))
        have hPB : PL x a n b (off + k * 6) w wB wB := hk3.base
        have hbB : b < wB.heap.size := by omega
        have hwB : w.heap.size + 1 < wB.heap.size := by omega
        have ON : Hid (∀ W1 W, PL x a n b (off + k * 6) w wB W1 → Below W1.heap.size W1 W → PL x a n b (off + k * 6) w wB W) := Lib.hid fun W1 W h hb => hPB.on hbB hwB (low_trans h.2.2.2.2.2.2.2.2.2.2.2.2.2 hb)
        have JD : Hid (∀ W, PL x a n b (off + k * 6) w wB W → PL x a n b (off + k * 6) w wB W.drew) := Lib.hid fun W h => hPB.on hbB hwB (low_drewN h.2.2.2.2.2.2.2.2.2.2.2.2.2 1)
        have JA : Hid (∀ W o', PL x a n b (off + k * 6) w wB W → PL x a n b (off + k * 6) w wB (W.alloc o')) := Lib.hid fun W o' h => hPB.on hbB hwB (Below.alloc h.2.2.2.2.2.2.2.2.2.2.2.2.2 (Below.size h.2.2.2.2.2.2.2.2.2.2.2.2.2) o')
        have G1 : Hid (∀ W, PL x a n b (off + k * 6) w wB W → Calls Try.prog 11 #[t', .agg #[.bool n.a.v6, .int .u64 n.a.hi, .int .u64 n.a.lo, .int .i64 n.n]] W fun e w' => e = .returned (.tuple #[.int .i64 (getV L' n), .bool (getB L' n)]) ∧ PL x a n b (off + k * 6) w wB w') := Lib.hid fun W h => (T.get t' L' n W (T.below hi3 h.2.2.2.2.2.2.2.2.2.2.2.2.2) (by omega) hn).mono fun e w' ⟨he, hb⟩ => ⟨he, ON.out _ _ h hb⟩
        have G2 : Hid (∀ W, PL x a n b (off + k * 6) w wB W → Calls Try.prog 12 #[.slice Aq L'.length cq, .agg #[.bool n.a.v6, .int .u64 n.a.hi, .int .u64 n.a.lo, .int .i64 n.n]] W fun e w' => e = .returned (.tuple #[.int .i64 (getV L' n), .bool (getB L' n)]) ∧ PL x a n b (off + k * 6) w wB w') := Lib.hid fun W h => (rget_any _ L' n W (hqh.out.below h.2.2.2.2.2.2.2.2.2.2.2.2.2) (by omega)).mono fun e w' ⟨he, hb⟩ => ⟨he, ON.out _ _ h hb⟩
        have LE : Hid (∀ W, PL x a n b (off + k * 6) w wB W → Calls Try.prog 13 #[t'] W fun e w' => e = .returned (.int .i64 (L'.length : Nat)) ∧ PL x a n b (off + k * 6) w wB w') := Lib.hid fun W h => (T.len t' L' W (T.below hi3 h.2.2.2.2.2.2.2.2.2.2.2.2.2) (by omega)).mono fun e w' ⟨he, hb⟩ => ⟨he, ON.out _ _ h hb⟩
        have AL : Hid (∀ W, PL x a n b (off + k * 6) w wB W → Calls Try.prog 15 #[t'] W fun e w' => ∃ u, e = .returned u ∧ Hits w' u L' ∧ PL x a n b (off + k * 6) w wB w') := Lib.hid fun W h => (T.all t' L' W (T.below hi3 h.2.2.2.2.2.2.2.2.2.2.2.2.2) (by omega)).mono fun e w' ⟨u, he, hu, hb⟩ => ⟨u, he, hu, ON.out _ _ h hb⟩
        have S1 : Hid (∀ W u, Hits W u L' → ∀ _ : True, PL x a n b (off + k * 6) w wB W → Calls Try.prog 14 #[u, .slice Aq L'.length cq] W fun e w' => e = .returned (.bool true) ∧ PL x a n b (off + k * 6) w wB w') := Lib.hid fun W u hu _ h => (same_one u _ L' W hu (hqh.out.below h.2.2.2.2.2.2.2.2.2.2.2.2.2) (by omega)).mono fun e w' ⟨he, hb⟩ => ⟨he, ON.out _ _ h hb⟩
        have CO : Hid (∀ W, PL x a n b (off + k * 6) w wB W → Calls Try.prog 16 #[t', .agg #[.bool a.v6, .int .u64 a.hi, .int .u64 a.lo]] W fun e w' => ∃ u, e = .returned u ∧ Hits w' u (cover L' a) ∧ PL x a n b (off + k * 6) w wB w') := Lib.hid fun W h => (T.cov t' L' a W (T.below hi3 h.2.2.2.2.2.2.2.2.2.2.2.2.2) (by omega) ha).mono fun e w' ⟨u, he, hu, hb⟩ => ⟨u, he, hu, ON.out _ _ h hb⟩
        have RC : Hid (∀ W, PL x a n b (off + k * 6) w wB W → Calls Try.prog 17 #[.slice Aq L'.length cq, .agg #[.bool a.v6, .int .u64 a.hi, .int .u64 a.lo]] W fun e w' => ∃ u, e = .returned u ∧ Hits w' u (cover L' a) ∧ Below W.heap.size W w' ∧ PL x a n b (off + k * 6) w wB w') := Lib.hid fun W h => (rcover_any _ L' a W (hqh.out.below h.2.2.2.2.2.2.2.2.2.2.2.2.2) (by omega) hLok.out ha).mono fun e w' ⟨u, he, hu, hb⟩ => ⟨u, he, hu, hb, ON.out _ _ h hb⟩
        have S2 : Hid (∀ W u u2, Hits W u (cover L' a) → Hits W u2 (cover L' a) → ∀ _ : True, PL x a n b (off + k * 6) w wB W → Calls Try.prog 14 #[u, u2] W fun e w' => e = .returned (.bool true) ∧ PL x a n b (off + k * 6) w wB w') := Lib.hid fun W u u2 hu hu2 _ h => (same_one u u2 (cover L' a) W hu hu2 hCl.out).mono fun e w' ⟨he, hb⟩ => ⟨he, ON.out _ _ h hb⟩
        have HQB : Hid (Hits wB (.slice Aq L'.length cq) L') := hqh
        have HIB : Hid (T.Is wB t' L') := Lib.hid hi3
        have e1 : (((L'.length : Nat) : Int) != ((L'.length : Nat) : Int)) = false := by simp
        have e2 : (getV L' n != getV L' n) = false := by simp
        have e3 : (!(getB L' n == getB L' n)) = false := by simp
        have hSW : Hid (Stays ((w.alloc (.cells #[.bool a.v6, .int .u64 a.hi, .int .u64 a.lo] 25)).alloc (.cells #[.bool n.a.v6, .int .u64 n.a.hi, .int .u64 n.a.lo, .int .i64 n.n] 27)) wB) := Lib.hid (low_trans hs (low_trans hb2w hbB3))
        clear hq2 hq3 hq4 hq3' hi3 hk3 hs hb2w hbB3
        obtain ⟨p0, p1, p2, p3, p4, p5, p6, p7, p8, p9, p10, p11, p12, hs_p⟩ := id hPB
        go_wp2_with fail
        (with_reducible refine (G1.out _ hPB).mono ?_)
        rintro e w4 ⟨rfl, hk4⟩
        clear p0 p1 p2 p3 p4 p5 p6 p7 p8 p9 p10 p11 p12 hs_p
        obtain ⟨p0, p1, p2, p3, p4, p5, p6, p7, p8, p9, p10, p11, p12, hs_p⟩ := id hk4
        go_wp2_with fail
        (with_reducible refine (G2.out _ hk4).mono ?_)
        rintro e w5 ⟨rfl, hk5⟩
        clear p0 p1 p2 p3 p4 p5 p6 p7 p8 p9 p10 p11 p12 hs_p
        obtain ⟨p0, p1, p2, p3, p4, p5, p6, p7, p8, p9, p10, p11, p12, hs_p⟩ := id hk5
        go_wp2_with fail
        go_region_held3 (fun w' => w'.cell? ⟨b, off + k * 6, none⟩ = some (.int .i64 x.kind) ∧ w'.cell? ⟨b, off + k * 6 + 1, none⟩ = some (.bool x.n.a.v6) ∧ w'.cell? ⟨b, off + k * 6 + 2, none⟩ = some (.int .u64 x.n.a.hi) ∧ w'.cell? ⟨b, off + k * 6 + 3, none⟩ = some (.int .u64 x.n.a.lo) ∧ w'.cell? ⟨b, off + k * 6 + 4, none⟩ = some (.int .i64 x.n.n) ∧ w'.cell? ⟨b, off + k * 6 + 5, none⟩ = some (.int .i64 x.v) ∧ w'.cell? ⟨w.heap.size, 0, none⟩ = some (.bool a.v6) ∧ w'.cell? ⟨w.heap.size, 1, none⟩ = some (.int .u64 a.hi) ∧ w'.cell? ⟨w.heap.size, 2, none⟩ = some (.int .u64 a.lo) ∧ w'.cell? ⟨w.heap.size + 1, 0, none⟩ = some (.bool n.a.v6) ∧ w'.cell? ⟨w.heap.size + 1, 1, none⟩ = some (.int .u64 n.a.hi) ∧ w'.cell? ⟨w.heap.size + 1, 2, none⟩ = some (.int .u64 n.a.lo) ∧ w'.cell? ⟨w.heap.size + 1, 3, none⟩ = some (.int .i64 n.n) ∧ Stays wB w')
          (first | assumption | exact JD.out _ ‹_› | exact JA.out _ _ ‹_›)
          (first
            | (go_at_call 13; (with_reducible refine (LE.out _ ‹_›).mono ?_); rintro e w9 ⟨rfl, hkw⟩)
            | (go_at_call 15; (with_reducible refine (AL.out _ ‹_›).mono ?_); rintro e w9 ⟨u, rfl, hall, hkw⟩)
            | (go_at_call 16; (with_reducible refine (CO.out _ ‹_›).mono ?_); rintro e w9 ⟨u, rfl, hcov, hkw⟩)
            | (go_at_call 17; (with_reducible refine (RC.out _ ‹_›).mono ?_); rintro e w9 ⟨u, rfl, hrc, hbb, hkw⟩; have hcov2 := hcov.below hbb)
            | (go_at_call 14; first
              | ((with_reducible refine (S1.out _ _ hall trivial ‹_›).mono ?_); rintro e w9 ⟨rfl, hkw⟩)
              | ((with_reducible refine (S2.out _ _ _ hcov2 hrc trivial ‹_›).mono ?_); rintro e w9 ⟨rfl, hkw⟩)))
        have hkf := ‹PL x a n b (off + k * 6) w wB _›
        have F1 := Lib.hid (T.below HIB.out hkf.2.2.2.2.2.2.2.2.2.2.2.2.2)
        have F2 := Lib.hid (Eq.subst (motive := fun M => Hits _ (.slice Aq L'.length cq) M) HL'.out (HQB.out.below hkf.2.2.2.2.2.2.2.2.2.2.2.2.2))
        have F3 := Lib.hid (low_trans hSW.out hkf.2.2.2.2.2.2.2.2.2.2.2.2.2)
        rw [HL'.out] at F1
        clear hkf
        go_wp2_with fail
        go_roundw
        case rel => exact ⟨k + 1, by omega, by go_num, F1, F2, F3.out⟩
        case measure => simp [intOf]; omega
    · go_wp2_with fail
      (with_reducible refine (T2.out _).mono ?_)
      rintro e w2 ⟨rfl, hb⟩
      have HB : Hid (Below w.heap.size w w2) := Lib.hid (low_trans (low_trans HB0.out hs) hb)
      clear hb
      go_wp2_with fail
      go_ret
      exact ⟨rfl, HB.out⟩
theorem plays_walk (T : TrieApi) (w : World) (v : Value) (la : List Act) (h : Acts w v la) (hok : ∀ x ∈ la, x.ok) (a : Adr) (ha : a.ok) (n : Net) (hn : n.ok) :
    Calls Try.prog 3 #[v, .agg #[.bool a.v6, .int .u64 a.hi, .int .u64 a.lo], .agg #[.bool n.a.v6, .int .u64 n.a.hi, .int .u64 n.a.lo, .int .i64 n.n]] w fun e w' => e = .returned (.bool true) ∧ Below w.heap.size w w' := by
  by_cases hl : la.length ≤ 60
  · exact plays_short T w v la h hok hl a ha n hn
  · exact plays_long T w v la h (by omega) a n
end Go.Proofs.Ytgnpnmdndlodlaa.Tr
