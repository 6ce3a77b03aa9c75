/- The second statement of layer 25, proved: a right entry stays right, whatever becomes of it; behind a failure it is not due ahead of what its failures say; for all confs and acts. -/
import Derived.Test.YtnknhmfhejdbfaaLaw25
import Derived.Deep.CutRange
import Derived.Deep.LoopGhost
import Derived.Deep.CutBlock
namespace Go.Proofs.Ytnknhmfhejdbfaa
set_option maxRecDepth 100000
open Go.ChangeShapes Go.WideShapes Go.ChangeAt Go.RowKit
open Ad Ci En Sat Bk Et Go.Deep
set_option linter.unusedVariables false
theorem put7 {w : World} {b : Nat} {t : TypeId} {vs : List Value} (h : Blk w b t vs) (hl : vs.length = 7) (v0 v1 v2 v3 v4 v5 v6 : Value) : Blk (((((((w.setCell ⟨b, 0, none⟩ v0).setCell ⟨b, 1, none⟩ v1).setCell ⟨b, 2, none⟩ v2).setCell ⟨b, 3, none⟩ v3).setCell ⟨b, 4, none⟩ v4).setCell ⟨b, 5, none⟩ v5).setCell ⟨b, 6, none⟩ v6) b t [v0, v1, v2, v3, v4, v5, v6] := by
  match vs, hl with
  | [_, _, _, _, _, _, _], _ => simpa using ((((((((h.set 0 v0).set 1 v1).set 2 v2).set 3 v3).set 4 v4).set 5 v5).set 6 v6))
theorem bt7 (w : World) (b : Nat) (v0 v1 v2 v3 v4 v5 v6 : Value) : Bt b w (((((((w.setCell ⟨b, 0, none⟩ v0).setCell ⟨b, 1, none⟩ v1).setCell ⟨b, 2, none⟩ v2).setCell ⟨b, 3, none⟩ v3).setCell ⟨b, 4, none⟩ v4).setCell ⟨b, 5, none⟩ v5).setCell ⟨b, 6, none⟩ v6) := ((((((Bt.setCell _ _ _ _).trans (Bt.setCell _ _ _ _)).trans (Bt.setCell _ _ _ _)).trans (Bt.setCell _ _ _ _)).trans (Bt.setCell _ _ _ _)).trans (Bt.setCell _ _ _ _)).trans (Bt.setCell _ _ _ _)
set_option maxHeartbeats 16000000 in
theorem entryWaits_walk (w : World) (c : Cf) (hc : c.ok) (p : Ey) (hp : p.ok) (v : Value) (la : List Act25) (h : Acts25 w v la) (hok : ∀ x ∈ la, x.ok) :
    Calls Try.prog 4 #[.agg #[.int .i64 c.mi, .int .i64 c.mo, .int .i64 c.sh, .int .i64 c.mb, .int .i64 c.bo, .int .u64 (c.s : Nat), .int .i64 c.qg, .int .i64 c.qp, .int .i64 c.qw, .int .i64 c.qt, .int .i64 c.half, .int .i64 c.lim, .int .i64 c.bf, .int .i64 c.base, .int .i64 c.cap, .int .i64 c.jit], .agg #[.bool p.e.a.v6, .int .u64 p.e.a.hi, .int .u64 p.e.a.lo, .int .i64 p.e.n, .int .i64 p.st, .int .i64 p.f, .int .i64 p.nx], v] w fun e w' => e = .returned (.bool true) ∧ Below w.heap.size w w' := by
  obtain ⟨A, cap2, rfl, hcap, -, hcell⟩ := h
  have HC := Lib.hid hcell
  have HO := Lib.hid hok
  have HK := Lib.hid hc
  have HE := Lib.hid hp.he
  have AW := Lib.hid (fun W => awake25_any W)
  have C0 := Lib.hid (fun W => rrightY_any p hp W)
  have L0 : Hid (Lows w ((w.alloc (.cells #[.int .i64 c.mi, .int .i64 c.mo, .int .i64 c.sh, .int .i64 c.mb, .int .i64 c.bo, .int .u64 (c.s : Nat), .int .i64 c.qg, .int .i64 c.qp, .int .i64 c.qw, .int .i64 c.qt, .int .i64 c.half, .int .i64 c.lim, .int .i64 c.bf, .int .i64 c.base, .int .i64 c.cap, .int .i64 c.jit] 26)).alloc (.cells #[.bool p.e.a.v6, .int .u64 p.e.a.hi, .int .u64 p.e.a.lo, .int .i64 p.e.n, .int .i64 p.st, .int .i64 p.f, .int .i64 p.nx] 32))) := Lib.hid (Lows.alloc (Lows.alloc (Lows.self w) _) _)
  have OC : Hid (Blk ((w.alloc (.cells #[.int .i64 c.mi, .int .i64 c.mo, .int .i64 c.sh, .int .i64 c.mb, .int .i64 c.bo, .int .u64 (c.s : Nat), .int .i64 c.qg, .int .i64 c.qp, .int .i64 c.qw, .int .i64 c.qt, .int .i64 c.half, .int .i64 c.lim, .int .i64 c.bf, .int .i64 c.base, .int .i64 c.cap, .int .i64 c.jit] 26)).alloc (.cells #[.bool p.e.a.v6, .int .u64 p.e.a.hi, .int .u64 p.e.a.lo, .int .i64 p.e.n, .int .i64 p.st, .int .i64 p.f, .int .i64 p.nx] 32)) w.heap.size 26 [.int .i64 c.mi, .int .i64 c.mo, .int .i64 c.sh, .int .i64 c.mb, .int .i64 c.bo, .int .u64 (c.s : Nat), .int .i64 c.qg, .int .i64 c.qp, .int .i64 c.qw, .int .i64 c.qt, .int .i64 c.half, .int .i64 c.lim, .int .i64 c.bf, .int .i64 c.base, .int .i64 c.cap, .int .i64 c.jit]) := Lib.hid ((Blk.new w #[.int .i64 c.mi, .int .i64 c.mo, .int .i64 c.sh, .int .i64 c.mb, .int .i64 c.bo, .int .u64 (c.s : Nat), .int .i64 c.qg, .int .i64 c.qp, .int .i64 c.qw, .int .i64 c.qt, .int .i64 c.half, .int .i64 c.lim, .int .i64 c.bf, .int .i64 c.base, .int .i64 c.cap, .int .i64 c.jit] 26).alloc (.cells #[.bool p.e.a.v6, .int .u64 p.e.a.hi, .int .u64 p.e.a.lo, .int .i64 p.e.n, .int .i64 p.st, .int .i64 p.f, .int .i64 p.nx] 32))
  have OE : Hid (Blk ((w.alloc (.cells #[.int .i64 c.mi, .int .i64 c.mo, .int .i64 c.sh, .int .i64 c.mb, .int .i64 c.bo, .int .u64 (c.s : Nat), .int .i64 c.qg, .int .i64 c.qp, .int .i64 c.qw, .int .i64 c.qt, .int .i64 c.half, .int .i64 c.lim, .int .i64 c.bf, .int .i64 c.base, .int .i64 c.cap, .int .i64 c.jit] 26)).alloc (.cells #[.bool p.e.a.v6, .int .u64 p.e.a.hi, .int .u64 p.e.a.lo, .int .i64 p.e.n, .int .i64 p.st, .int .i64 p.f, .int .i64 p.nx] 32)) (w.heap.size + 1) 32 [.bool p.e.a.v6, .int .u64 p.e.a.hi, .int .u64 p.e.a.lo, .int .i64 p.e.n, .int .i64 p.st, .int .i64 p.f, .int .i64 p.nx]) := Lib.hid (Blk.two w (.cells #[.int .i64 c.mi, .int .i64 c.mo, .int .i64 c.sh, .int .i64 c.mb, .int .i64 c.bo, .int .u64 (c.s : Nat), .int .i64 c.qg, .int .i64 c.qp, .int .i64 c.qw, .int .i64 c.qt, .int .i64 c.half, .int .i64 c.lim, .int .i64 c.bf, .int .i64 c.base, .int .i64 c.cap, .int .i64 c.jit] 26) #[.bool p.e.a.v6, .int .u64 p.e.a.hi, .int .u64 p.e.a.lo, .int .i64 p.e.n, .int .i64 p.st, .int .i64 p.f, .int .i64 p.nx] 32)
  have NE := fun W => neqEnd p.e p.e W
  simp only [same_selfE, Bool.not_true] at NE
  clear hcell hok hp hc
  cases hr : rightY p
  · rw [hr] at C0
    clear hr
    go_enter Try.func4, Try.ntmps4
    go_wp2_with fail
    refine (C0.out _).mono ?_; rintro e w1 ⟨rfl, hb1⟩
    have L1 := Lib.hid (low_trans L0.out hb1)
    clear hb1
    go_wp2_with fail
    refine (AW.out _).mono ?_; rintro e w9 ⟨rfl, hb9⟩
    go_wp2_with fail
    go_ret
    exact ⟨rfl, low_trans L1.out hb9⟩
  · rw [hr] at C0
    have HR := Lib.hid hr
    clear hr
    by_cases hl : 100 < la.length
    · have hd : (100 : Int) < (la.length : Int) := by omega
      clear hl
      go_enter Try.func4, Try.ntmps4
      go_wp2_with fail
      refine (C0.out _).mono ?_; rintro e w1 ⟨rfl, hb1⟩
      have L1 := Lib.hid (low_trans L0.out hb1)
      clear hb1
      go_wp2_with fail
      refine (AW.out _).mono ?_; rintro e w9 ⟨rfl, hb9⟩
      go_wp2_with fail
      go_ret
      exact ⟨rfl, low_trans L1.out hb9⟩
    · have hd : ¬ (100 : Int) < (la.length : Int) := by omega
      go_enter Try.func4, Try.ntmps4
      go_wp2_with fail
      refine (C0.out _).mono ?_; rintro e w1 ⟨rfl, hb1⟩
      have OC1 := Lib.hid (OC.out.on hb1)
      have OE1 := Lib.hid (OE.out.on hb1)
      have L1 := Lib.hid (low_trans L0.out hb1)
      clear hb1 OC OE L0 C0
      go_wp2_with fail
      go_loopg [7] (la.length) (fun m s7 wr => ∃ (k : Nat) (st f nx : Int), k + m = la.length ∧ s7 = .int .i64 k ∧ Hid (rightY (⟨p.e, st, f, nx⟩ : Ey) = true) ∧ Hid (Blk wr (w.heap.size + 1) 32 [.bool p.e.a.v6, .int .u64 p.e.a.hi, .int .u64 p.e.a.lo, .int .i64 p.e.n, .int .i64 st, .int .i64 f, .int .i64 nx]) ∧ Hid (Bt (w.heap.size + 1) w1 wr))
      case atStart => exact ⟨0, p.st, p.f, p.nx, by omega, rfl, HR, OE1, Lib.hid (Bt.refl _ _)⟩
      case round =>
        obtain ⟨k, st, f, nx, hk, rfl, HQ, HB, HT⟩ := hrel
        have LW : Hid (Below w.heap.size w wr) := Lib.hid (L1.out.trans (HT.out.low (Nat.le_succ _) L1.out.size))
        have OCr : Hid (Blk wr w.heap.size 26 [.int .i64 c.mi, .int .i64 c.mo, .int .i64 c.sh, .int .i64 c.mb, .int .i64 c.bo, .int .u64 (c.s : Nat), .int .i64 c.qg, .int .i64 c.qp, .int .i64 c.qw, .int .i64 c.qt, .int .i64 c.half, .int .i64 c.lim, .int .i64 c.bf, .int .i64 c.base, .int .i64 c.cap, .int .i64 c.jit]) := Lib.hid (OC1.out.but HT.out (Nat.ne_of_lt (Nat.lt_succ_self _)))
        have HL : Hid ((w.heap.size + 1) < wr.heap.size) := Lib.hid HB.out.lt
        by_cases hlt : k < la.length
        · obtain ⟨b, o, rfl, hb, hcc⟩ := HC.out (by omega)
          have e0 : wr.cell? ⟨b, o + k * 3, none⟩ = some (.int .i64 la[k].kind) := (LW.out.cell (p := ⟨b, o + k * 3, none⟩) hb).trans (hcc k hlt 0 _ rfl)
          have e1 : wr.cell? ⟨b, o + k * 3 + 1, none⟩ = some (.int .i64 la[k].n) := (LW.out.cell (p := ⟨b, o + k * 3 + 1, none⟩) hb).trans (hcc k hlt 1 _ rfl)
          have e2 : wr.cell? ⟨b, o + k * 3 + 2, none⟩ = some (.int .i64 la[k].j) := (LW.out.cell (p := ⟨b, o + k * 3 + 2, none⟩) hb).trans (hcc k hlt 2 _ rfl)
          have HX := Lib.hid (HO.out (la[k]) (List.getElem_mem hlt))
          have hkl : (k : Int) < (la.length : Int) := by omega
          generalize la[k] = x at e0 e1 e2 HX
          have OA : Hid (Blk ((wr.alloc (.cells #[.int .i64 x.kind, .int .i64 x.n, .int .i64 x.j] 44)).alloc (.cells #[.bool p.e.a.v6, .int .u64 p.e.a.hi, .int .u64 p.e.a.lo, .int .i64 p.e.n, .int .i64 st, .int .i64 f, .int .i64 nx] 32)) wr.heap.size 44 [.int .i64 x.kind, .int .i64 x.n, .int .i64 x.j]) := Lib.hid ((Blk.new wr #[.int .i64 x.kind, .int .i64 x.n, .int .i64 x.j] 44).alloc (.cells #[.bool p.e.a.v6, .int .u64 p.e.a.hi, .int .u64 p.e.a.lo, .int .i64 p.e.n, .int .i64 st, .int .i64 f, .int .i64 nx] 32))
          have OW : Hid (Blk ((wr.alloc (.cells #[.int .i64 x.kind, .int .i64 x.n, .int .i64 x.j] 44)).alloc (.cells #[.bool p.e.a.v6, .int .u64 p.e.a.hi, .int .u64 p.e.a.lo, .int .i64 p.e.n, .int .i64 st, .int .i64 f, .int .i64 nx] 32)) (wr.heap.size + 1) 32 [.bool p.e.a.v6, .int .u64 p.e.a.hi, .int .u64 p.e.a.lo, .int .i64 p.e.n, .int .i64 st, .int .i64 f, .int .i64 nx]) := Lib.hid (Blk.two wr (.cells #[.int .i64 x.kind, .int .i64 x.n, .int .i64 x.j] 44) #[.bool p.e.a.v6, .int .u64 p.e.a.hi, .int .u64 p.e.a.lo, .int .i64 p.e.n, .int .i64 st, .int .i64 f, .int .i64 nx] 32)
          have OB : Hid (Blk ((wr.alloc (.cells #[.int .i64 x.kind, .int .i64 x.n, .int .i64 x.j] 44)).alloc (.cells #[.bool p.e.a.v6, .int .u64 p.e.a.hi, .int .u64 p.e.a.lo, .int .i64 p.e.n, .int .i64 st, .int .i64 f, .int .i64 nx] 32)) (w.heap.size + 1) 32 [.bool p.e.a.v6, .int .u64 p.e.a.hi, .int .u64 p.e.a.lo, .int .i64 p.e.n, .int .i64 st, .int .i64 f, .int .i64 nx]) := Lib.hid ((HB.out.alloc (.cells #[.int .i64 x.kind, .int .i64 x.n, .int .i64 x.j] 44)).alloc (.cells #[.bool p.e.a.v6, .int .u64 p.e.a.hi, .int .u64 p.e.a.lo, .int .i64 p.e.n, .int .i64 st, .int .i64 f, .int .i64 nx] 32))
          have OCa : Hid (Blk ((wr.alloc (.cells #[.int .i64 x.kind, .int .i64 x.n, .int .i64 x.j] 44)).alloc (.cells #[.bool p.e.a.v6, .int .u64 p.e.a.hi, .int .u64 p.e.a.lo, .int .i64 p.e.n, .int .i64 st, .int .i64 f, .int .i64 nx] 32)) w.heap.size 26 [.int .i64 c.mi, .int .i64 c.mo, .int .i64 c.sh, .int .i64 c.mb, .int .i64 c.bo, .int .u64 (c.s : Nat), .int .i64 c.qg, .int .i64 c.qp, .int .i64 c.qw, .int .i64 c.qt, .int .i64 c.half, .int .i64 c.lim, .int .i64 c.bf, .int .i64 c.base, .int .i64 c.cap, .int .i64 c.jit]) := Lib.hid ((OCr.out.alloc (.cells #[.int .i64 x.kind, .int .i64 x.n, .int .i64 x.j] 44)).alloc (.cells #[.bool p.e.a.v6, .int .u64 p.e.a.hi, .int .u64 p.e.a.lo, .int .i64 p.e.n, .int .i64 st, .int .i64 f, .int .i64 nx] 32))
          have TA : Hid (Bt (w.heap.size + 1) wr ((wr.alloc (.cells #[.int .i64 x.kind, .int .i64 x.n, .int .i64 x.j] 44)).alloc (.cells #[.bool p.e.a.v6, .int .u64 p.e.a.hi, .int .u64 p.e.a.lo, .int .i64 p.e.n, .int .i64 st, .int .i64 f, .int .i64 nx] 32))) := Lib.hid (Bt.alloc (Bt.alloc (Bt.refl _ _) _) _)
          clear hcc
          have q0 := (HB.out.alloc (.cells #[.int .i64 x.kind, .int .i64 x.n, .int .i64 x.j] 44)).cell (j := 0) rfl
          have q1 := (HB.out.alloc (.cells #[.int .i64 x.kind, .int .i64 x.n, .int .i64 x.j] 44)).cell (j := 1) rfl
          have q2 := (HB.out.alloc (.cells #[.int .i64 x.kind, .int .i64 x.n, .int .i64 x.j] 44)).cell (j := 2) rfl
          have q3 := (HB.out.alloc (.cells #[.int .i64 x.kind, .int .i64 x.n, .int .i64 x.j] 44)).cell (j := 3) rfl
          have q4 := (HB.out.alloc (.cells #[.int .i64 x.kind, .int .i64 x.n, .int .i64 x.j] 44)).cell (j := 4) rfl
          have q5 := (HB.out.alloc (.cells #[.int .i64 x.kind, .int .i64 x.n, .int .i64 x.j] 44)).cell (j := 5) rfl
          have q6 := (HB.out.alloc (.cells #[.int .i64 x.kind, .int .i64 x.n, .int .i64 x.j] 44)).cell (j := 6) rfl
          go_upto_block 2 with fail
          clear e0 e1 e2 q0 q1 q2 q3 q4 q5 q6
          obtain ⟨wa, hwa⟩ : ∃ wa, wa = ((wr.alloc (.cells #[.int .i64 x.kind, .int .i64 x.n, .int .i64 x.j] 44)).alloc (.cells #[.bool p.e.a.v6, .int .u64 p.e.a.hi, .int .u64 p.e.a.lo, .int .i64 p.e.n, .int .i64 st, .int .i64 f, .int .i64 nx] 32)) := ⟨_, rfl⟩
          rw [← hwa] at OA OW OB OCa TA ⊢
          clear hwa HB OCr
          go_cut [10] from 20 to 104 (fun s10 wx => ∃ (st2 f2 nx2 : Int), Hid (rightY (⟨p.e, st2, f2, nx2⟩ : Ey) = true) ∧ Hid (x.kind = 1 ∨ nx2 = nx) ∧ Hid (Blk wx (w.heap.size + 1) 32 [.bool p.e.a.v6, .int .u64 p.e.a.hi, .int .u64 p.e.a.lo, .int .i64 p.e.n, .int .i64 st2, .int .i64 f2, .int .i64 nx2]) ∧ Hid (Bt (w.heap.size + 1) wa wx))
          case first =>
            by_cases hk0 : x.kind = 0
            · have hkb : (x.kind == 0) = true := by rw [beq_iff_eq]; exact hk0
              clear hk0
              have K : Hid (∀ W, Calls Try.prog 11 #[.agg #[.bool p.e.a.v6, .int .u64 p.e.a.hi, .int .u64 p.e.a.lo, .int .i64 p.e.n, .int .i64 st, .int .i64 f, .int .i64 nx]] W fun e w' => e = .returned (.agg #[.bool p.e.a.v6, .int .u64 p.e.a.hi, .int .u64 p.e.a.lo, .int .i64 p.e.n, .int .i64 2, .int .i64 f, .int .i64 nx]) ∧ Below W.heap.size W w') := Lib.hid fun W => fly_any (⟨p.e, st, f, nx⟩ : Ey) W
              have HQ2 : Hid (rightY (⟨p.e, 2, f, nx⟩ : Ey) = true) := Lib.hid (state_right (y := (⟨p.e, st, f, nx⟩ : Ey)) HQ.out (s := 2) (by decide))
              have b0 := OB.out.cell (j := 0) rfl
              have b1 := OB.out.cell (j := 1) rfl
              have b2 := OB.out.cell (j := 2) rfl
              have b3 := OB.out.cell (j := 3) rfl
              have b4 := OB.out.cell (j := 4) rfl
              have b5 := OB.out.cell (j := 5) rfl
              have b6 := OB.out.cell (j := 6) rfl
              go_wp2_with fail
              refine (K.out _).mono ?_; rintro e w9 ⟨rfl, hb9⟩
              have own := OB.out.on hb9
              have T9 : Hid (Bt (w.heap.size + 1) wa w9) := Lib.hid (Bt.of hb9)
              clear hb9 b0 b1 b2 b3 b4 b5 b6 K
              have s0 := own.cell (j := 0) rfl
              have s1 := own.cell (j := 1) rfl
              have s2 := own.cell (j := 2) rfl
              have s3 := own.cell (j := 3) rfl
              have s4 := own.cell (j := 4) rfl
              have s5 := own.cell (j := 5) rfl
              have s6 := own.cell (j := 6) rfl
              have f0 := own.free 0
              have f1 := own.free 1
              have f2 := own.free 2
              have f3 := own.free 3
              have f4 := own.free 4
              have f5 := own.free 5
              have f6 := own.free 6
              have O9 := Lib.hid own
              clear own
              go_wp2_with fail
              go_meet
              case rel => exact ⟨2, f, nx, HQ2, Lib.hid (Or.inr rfl), Lib.hid (put7 O9.out rfl _ _ _ _ _ _ _ ), Lib.hid (T9.out.trans (bt7 _ _ _ _ _ _ _ _ _ ))⟩
            · have hkb : (x.kind == 0) = false := by rw [beq_eq_false_iff_ne]; exact hk0
              by_cases hk1 : x.kind = 1
              · have hkc : (x.kind == 1) = true := by rw [beq_iff_eq]; exact hk1
                have HI := Lib.hid hk1
                clear hk0 hk1
                have hrt := (rightY_iff _).1 HQ.out
                simp only [] at hrt
                have hf0 : 0 ≤ f := hrt.2.2.1.1
                have hf1 : f ≤ 1000 := hrt.2.2.1.2
                clear hrt
                obtain ⟨q, Q⟩ : ∃ q : Int, min (f + 1) 1000 = q := ⟨_, rfl⟩
                have hq0 : 1 ≤ q := by omega
                have hq1 : q ≤ 1000 := by omega
                have EQ : moreF f = q := by rw [more_right ⟨hf0, hf1⟩, Q]
                obtain ⟨fr, FR⟩ : ∃ fr : Int, nextR c q x.n x.j = fr := ⟨_, rfl⟩
                have hfr := next_bd c q x.n x.j
                rw [FR] at hfr
                have hr0 := hfr.1
                have hr1 := hfr.2
                clear hfr
                have FE : failY c (⟨p.e, st, f, nx⟩ : Ey) x.n x.j = (⟨p.e, 1, q, fr⟩ : Ey) := by unfold failY; simp only []; rw [EQ, FR]
                have OK := right_ok (y := (⟨p.e, st, f, nx⟩ : Ey)) HE.out HQ.out
                have hxj := HX.out.hj
                unfold i64B at hxj
                have K : Hid (∀ W, Calls Try.prog 13 #[.agg #[.int .i64 c.mi, .int .i64 c.mo, .int .i64 c.sh, .int .i64 c.mb, .int .i64 c.bo, .int .u64 (c.s : Nat), .int .i64 c.qg, .int .i64 c.qp, .int .i64 c.qw, .int .i64 c.qt, .int .i64 c.half, .int .i64 c.lim, .int .i64 c.bf, .int .i64 c.base, .int .i64 c.cap, .int .i64 c.jit], .agg #[.bool p.e.a.v6, .int .u64 p.e.a.hi, .int .u64 p.e.a.lo, .int .i64 p.e.n, .int .i64 st, .int .i64 f, .int .i64 nx], .int .i64 x.n, .int .i64 x.j] W fun e w' => e = .returned (.agg #[.bool p.e.a.v6, .int .u64 p.e.a.hi, .int .u64 p.e.a.lo, .int .i64 p.e.n, .int .i64 1, .int .i64 q, .int .i64 fr]) ∧ Below W.heap.size W w') := Lib.hid fun W => by have k := fail_any c HK.out (⟨p.e, st, f, nx⟩ : Ey) OK x.n x.j hxj W; rwa [FE] at k
                have HQ2 : Hid (rightY (⟨p.e, 1, q, fr⟩ : Ey) = true) := Lib.hid (by have k := fail_right HQ.out c x.n x.j; rwa [FE] at k)
                have DU1 : Hid (∀ W, Calls Try.prog 9 #[.agg #[.bool p.e.a.v6, .int .u64 p.e.a.hi, .int .u64 p.e.a.lo, .int .i64 p.e.n, .int .i64 1, .int .i64 q, .int .i64 fr], .int .i64 (fr - 1)] W fun e w' => e = .returned (.bool false) ∧ Below W.heap.size W w') := Lib.hid fun W => by have k := due_any (⟨p.e, 1, q, fr⟩ : Ey) (fr - 1) W; rwa [show dueY (⟨p.e, 1, q, fr⟩ : Ey) (fr - 1) = false from by unfold dueY; simp; omega] at k
                have DU2 : Hid (∀ W, Calls Try.prog 9 #[.agg #[.bool p.e.a.v6, .int .u64 p.e.a.hi, .int .u64 p.e.a.lo, .int .i64 p.e.n, .int .i64 1, .int .i64 q, .int .i64 fr], .int .i64 fr] W fun e w' => e = .returned (.bool true) ∧ Below W.heap.size W w') := Lib.hid fun W => by have k := due_any (⟨p.e, 1, q, fr⟩ : Ey) fr W; rwa [show dueY (⟨p.e, 1, q, fr⟩ : Ey) fr = true from by unfold dueY; simp] at k
                obtain ⟨d, DD⟩ : ∃ d : Int, delayR c q = d := ⟨_, rfl⟩
                obtain ⟨jm, JM⟩ : ∃ m : Int, jitR c x.j = m := ⟨_, rfl⟩
                obtain ⟨a1, A1⟩ : ∃ a : Int, add x.n d = a := ⟨_, rfl⟩
                have A2 : add a1 jm = fr := by rw [← FR, ← A1, ← DD, ← JM]; rfl
                have R1 := Lib.hid (fun W => by have k := rdelay_any c HK.out q (by omega) W; rwa [DD] at k)
                have R2 := Lib.hid (fun W => by have k := rjitter_any c HK.out x.j hxj W; rwa [JM] at k)
                have R3 := Lib.hid (fun W => by have k := radd_any x.n d W; rwa [A1] at k)
                have R4 := Lib.hid (fun W => by have k := radd_any a1 jm W; rwa [A2] at k)
                have HM := Lib.hid Q
                clear DD JM A1 A2 FR FE OK EQ hxj Q
                go_upto_region 13 with fail
                go_cut [] from 20 to 104 (fun wx => Hid (Blk wx (w.heap.size + 1) 32 [.bool p.e.a.v6, .int .u64 p.e.a.hi, .int .u64 p.e.a.lo, .int .i64 p.e.n, .int .i64 1, .int .i64 q, .int .i64 fr]) ∧ Hid (Bt (w.heap.size + 1) wa wx))
                case first =>
                  have cc0 := OCa.out.cell (j := 0) rfl
                  have cc1 := OCa.out.cell (j := 1) rfl
                  have cc2 := OCa.out.cell (j := 2) rfl
                  have cc3 := OCa.out.cell (j := 3) rfl
                  have cc4 := OCa.out.cell (j := 4) rfl
                  have cc5 := OCa.out.cell (j := 5) rfl
                  have cc6 := OCa.out.cell (j := 6) rfl
                  have cc7 := OCa.out.cell (j := 7) rfl
                  have cc8 := OCa.out.cell (j := 8) rfl
                  have cc9 := OCa.out.cell (j := 9) rfl
                  have cc10 := OCa.out.cell (j := 10) rfl
                  have cc11 := OCa.out.cell (j := 11) rfl
                  have cc12 := OCa.out.cell (j := 12) rfl
                  have cc13 := OCa.out.cell (j := 13) rfl
                  have cc14 := OCa.out.cell (j := 14) rfl
                  have cc15 := OCa.out.cell (j := 15) rfl
                  have aa1 := OA.out.cell (j := 1) rfl
                  have aa2 := OA.out.cell (j := 2) rfl
                  have b0 := OB.out.cell (j := 0) rfl
                  have b1 := OB.out.cell (j := 1) rfl
                  have b2 := OB.out.cell (j := 2) rfl
                  have b3 := OB.out.cell (j := 3) rfl
                  have b4 := OB.out.cell (j := 4) rfl
                  have b5 := OB.out.cell (j := 5) rfl
                  have b6 := OB.out.cell (j := 6) rfl
                  go_wp2_with fail
                  refine (K.out _).mono ?_; rintro e w9 ⟨rfl, hb9⟩
                  have own := OB.out.on hb9
                  have T9 : Hid (Bt (w.heap.size + 1) wa w9) := Lib.hid (Bt.of hb9)
                  clear hb9 aa1 aa2 cc0 cc1 cc2 cc3 cc4 cc5 cc6 cc7 cc8 cc9 cc10 cc11 cc12 cc13 cc14 cc15 b0 b1 b2 b3 b4 b5 b6 K
                  have s0 := own.cell (j := 0) rfl
                  have s1 := own.cell (j := 1) rfl
                  have s2 := own.cell (j := 2) rfl
                  have s3 := own.cell (j := 3) rfl
                  have s4 := own.cell (j := 4) rfl
                  have s5 := own.cell (j := 5) rfl
                  have s6 := own.cell (j := 6) rfl
                  have f0 := own.free 0
                  have f1 := own.free 1
                  have f2 := own.free 2
                  have f3 := own.free 3
                  have f4 := own.free 4
                  have f5 := own.free 5
                  have f6 := own.free 6
                  have O9 := Lib.hid own
                  clear own
                  go_wp2_with fail
                  go_meet
                  case rel => exact ⟨Lib.hid (put7 O9.out rfl _ _ _ _ _ _ _ ), Lib.hid (T9.out.trans (bt7 _ _ _ _ _ _ _ _ _ ))⟩
                case rest =>
                  obtain ⟨HB3, HT3⟩ := hcut
                  obtain ⟨w3, hw3⟩ : ∃ w3, w3 = wc := ⟨_, rfl⟩
                  subst hw3
                  have NA : Hid (wr.heap.size ≠ (w.heap.size + 1)) := Lib.hid (Nat.ne_of_gt HL.out)
                  have NW : Hid (wr.heap.size + 1 ≠ (w.heap.size + 1)) := Lib.hid (Nat.ne_of_gt (Nat.lt_succ_of_lt HL.out))
                  have OA3 := Lib.hid (OA.out.but HT3.out NA.out)
                  have OW3 := Lib.hid (OW.out.but HT3.out NW.out)
                  have OC3 := Lib.hid (OCa.out.but HT3.out (Nat.ne_of_lt (Nat.lt_succ_self _)))
                  go_wp2_with fail
                  have hne : Nonempty (Cls (Lows w3)) := ⟨⟨_, Lows.self _⟩⟩
                  have f0 : ∀ nq : Cls (Lows w3), nq.w.cell? ⟨w.heap.size, 0, none⟩ = some (.int .i64 c.mi) := fun nq => Blk.in OC3 nq.h rfl
                  have f1 : ∀ nq : Cls (Lows w3), nq.w.cell? ⟨w.heap.size, 1, none⟩ = some (.int .i64 c.mo) := fun nq => Blk.in OC3 nq.h rfl
                  have f2 : ∀ nq : Cls (Lows w3), nq.w.cell? ⟨w.heap.size, 2, none⟩ = some (.int .i64 c.sh) := fun nq => Blk.in OC3 nq.h rfl
                  have f3 : ∀ nq : Cls (Lows w3), nq.w.cell? ⟨w.heap.size, 3, none⟩ = some (.int .i64 c.mb) := fun nq => Blk.in OC3 nq.h rfl
                  have f4 : ∀ nq : Cls (Lows w3), nq.w.cell? ⟨w.heap.size, 4, none⟩ = some (.int .i64 c.bo) := fun nq => Blk.in OC3 nq.h rfl
                  have f5 : ∀ nq : Cls (Lows w3), nq.w.cell? ⟨w.heap.size, 5, none⟩ = some (.int .u64 (c.s : Nat)) := fun nq => Blk.in OC3 nq.h rfl
                  have f6 : ∀ nq : Cls (Lows w3), nq.w.cell? ⟨w.heap.size, 6, none⟩ = some (.int .i64 c.qg) := fun nq => Blk.in OC3 nq.h rfl
                  have f7 : ∀ nq : Cls (Lows w3), nq.w.cell? ⟨w.heap.size, 7, none⟩ = some (.int .i64 c.qp) := fun nq => Blk.in OC3 nq.h rfl
                  have f8 : ∀ nq : Cls (Lows w3), nq.w.cell? ⟨w.heap.size, 8, none⟩ = some (.int .i64 c.qw) := fun nq => Blk.in OC3 nq.h rfl
                  have f9 : ∀ nq : Cls (Lows w3), nq.w.cell? ⟨w.heap.size, 9, none⟩ = some (.int .i64 c.qt) := fun nq => Blk.in OC3 nq.h rfl
                  have f10 : ∀ nq : Cls (Lows w3), nq.w.cell? ⟨w.heap.size, 10, none⟩ = some (.int .i64 c.half) := fun nq => Blk.in OC3 nq.h rfl
                  have f11 : ∀ nq : Cls (Lows w3), nq.w.cell? ⟨w.heap.size, 11, none⟩ = some (.int .i64 c.lim) := fun nq => Blk.in OC3 nq.h rfl
                  have f12 : ∀ nq : Cls (Lows w3), nq.w.cell? ⟨w.heap.size, 12, none⟩ = some (.int .i64 c.bf) := fun nq => Blk.in OC3 nq.h rfl
                  have f13 : ∀ nq : Cls (Lows w3), nq.w.cell? ⟨w.heap.size, 13, none⟩ = some (.int .i64 c.base) := fun nq => Blk.in OC3 nq.h rfl
                  have f14 : ∀ nq : Cls (Lows w3), nq.w.cell? ⟨w.heap.size, 14, none⟩ = some (.int .i64 c.cap) := fun nq => Blk.in OC3 nq.h rfl
                  have f15 : ∀ nq : Cls (Lows w3), nq.w.cell? ⟨w.heap.size, 15, none⟩ = some (.int .i64 c.jit) := fun nq => Blk.in OC3 nq.h rfl
                  have f16 : ∀ nq : Cls (Lows w3), nq.w.cell? ⟨(w.heap.size + 1), 0, none⟩ = some (.bool p.e.a.v6) := fun nq => Blk.in HB3 nq.h rfl
                  have f17 : ∀ nq : Cls (Lows w3), nq.w.cell? ⟨(w.heap.size + 1), 1, none⟩ = some (.int .u64 p.e.a.hi) := fun nq => Blk.in HB3 nq.h rfl
                  have f18 : ∀ nq : Cls (Lows w3), nq.w.cell? ⟨(w.heap.size + 1), 2, none⟩ = some (.int .u64 p.e.a.lo) := fun nq => Blk.in HB3 nq.h rfl
                  have f19 : ∀ nq : Cls (Lows w3), nq.w.cell? ⟨(w.heap.size + 1), 3, none⟩ = some (.int .i64 p.e.n) := fun nq => Blk.in HB3 nq.h rfl
                  have f20 : ∀ nq : Cls (Lows w3), nq.w.cell? ⟨(w.heap.size + 1), 4, none⟩ = some (.int .i64 1) := fun nq => Blk.in HB3 nq.h rfl
                  have f21 : ∀ nq : Cls (Lows w3), nq.w.cell? ⟨(w.heap.size + 1), 5, none⟩ = some (.int .i64 q) := fun nq => Blk.in HB3 nq.h rfl
                  have f22 : ∀ nq : Cls (Lows w3), nq.w.cell? ⟨(w.heap.size + 1), 6, none⟩ = some (.int .i64 fr) := fun nq => Blk.in HB3 nq.h rfl
                  have f23 : ∀ nq : Cls (Lows w3), nq.w.cell? ⟨wr.heap.size, 0, none⟩ = some (.int .i64 x.kind) := fun nq => Blk.in OA3 nq.h rfl
                  have f24 : ∀ nq : Cls (Lows w3), nq.w.cell? ⟨wr.heap.size, 1, none⟩ = some (.int .i64 x.n) := fun nq => Blk.in OA3 nq.h rfl
                  have f25 : ∀ nq : Cls (Lows w3), nq.w.cell? ⟨wr.heap.size, 2, none⟩ = some (.int .i64 x.j) := fun nq => Blk.in OA3 nq.h rfl
                  refine Cls.region (Lows w3) (by kernel_rfl) (by kernel_rfl) (low_drewN (Below.refl _ _) 1) ?_
                  (try dsimp only [List.append])
                  repeat (go_big_quiet_step (first | fail | (with_reducible exact Cls.call ((lows_call R1).out _ (Cls.h _))) | (with_reducible exact Cls.call ((lows_call R2).out _ (Cls.h _))) | (with_reducible exact Cls.call ((lows_same R3).out _ (Cls.h _))) | (with_reducible exact Cls.call ((lows_same R4).out _ (Cls.h _)))))
                  refine wpQuiet_nil ?_
                  intro n9
                  have hk4 := n9.h
                  generalize n9.w = w4 at hk4 ⊢
                  clear hne n9 f0 f1 f2 f3 f4 f5 f6 f7 f8 f9 f10 f11 f12 f13 f14 f15 f16 f17 f18 f19 f20 f21 f22 f23 f24 f25
                  have HB4 := Lib.hid (HB3.out.on hk4)
                  have OW4 := Lib.hid (OW3.out.on hk4)
                  have HT4 := Lib.hid (HT3.out.trans (Bt.of hk4))
                  clear hk4 HB3 HT3 OA3 OW3 OC3 R1 R2 R3 R4
                  have Q := HM.out
                  have b0 := HB4.out.cell (j := 0) rfl
                  have b1 := HB4.out.cell (j := 1) rfl
                  have b2 := HB4.out.cell (j := 2) rfl
                  have b3 := HB4.out.cell (j := 3) rfl
                  have b4 := HB4.out.cell (j := 4) rfl
                  have b5 := HB4.out.cell (j := 5) rfl
                  have b6 := HB4.out.cell (j := 6) rfl
                  have u5 := OW4.out.cell (j := 5) rfl
                  go_wp2_with fail
                  refine (DU1.out _).mono ?_; rintro e w5 ⟨rfl, hb5⟩
                  have HB5 := Lib.hid (HB4.out.on hb5)
                  have HT5 := Lib.hid (HT4.out.trans (Bt.of hb5))
                  clear hb5 HB4 HT4 u5 DU1 b0 b1 b2 b3 b4 b5 b6
                  have b0 := HB5.out.cell (j := 0) rfl
                  have b1 := HB5.out.cell (j := 1) rfl
                  have b2 := HB5.out.cell (j := 2) rfl
                  have b3 := HB5.out.cell (j := 3) rfl
                  have b4 := HB5.out.cell (j := 4) rfl
                  have b5 := HB5.out.cell (j := 5) rfl
                  have b6 := HB5.out.cell (j := 6) rfl
                  go_wp2_with fail
                  refine (DU2.out _).mono ?_; rintro e w6 ⟨rfl, hb6⟩
                  have HB6 := Lib.hid (HB5.out.on hb6)
                  have HT6 := Lib.hid (HT5.out.trans (Bt.of hb6))
                  clear hb6 HB5 HT5 DU2 b0 b1 b2 b3 b4 b5 b6
                  go_wp2_with fail
                  go_meet
                  case rel => exact ⟨1, q, fr, HQ2, Lib.hid (Or.inl HI.out), HB6, HT6⟩
              · have hkc : (x.kind == 1) = false := by rw [beq_eq_false_iff_ne]; exact hk1
                by_cases hk2 : x.kind = 2
                · have hkd : (x.kind == 2) = true := by rw [beq_iff_eq]; exact hk2
                  clear hk0 hk1 hk2
                  have K : Hid (∀ W, Calls Try.prog 15 #[.agg #[.bool p.e.a.v6, .int .u64 p.e.a.hi, .int .u64 p.e.a.lo, .int .i64 p.e.n, .int .i64 st, .int .i64 f, .int .i64 nx]] W fun e w' => e = .returned (.agg #[.bool p.e.a.v6, .int .u64 p.e.a.hi, .int .u64 p.e.a.lo, .int .i64 p.e.n, .int .i64 3, .int .i64 0, .int .i64 nx]) ∧ Below W.heap.size W w') := Lib.hid fun W => good_any (⟨p.e, st, f, nx⟩ : Ey) W
                  have HQ2 : Hid (rightY (⟨p.e, 3, 0, nx⟩ : Ey) = true) := Lib.hid (good_right (y := (⟨p.e, st, f, nx⟩ : Ey)) HQ.out)
                  have b0 := OB.out.cell (j := 0) rfl
                  have b1 := OB.out.cell (j := 1) rfl
                  have b2 := OB.out.cell (j := 2) rfl
                  have b3 := OB.out.cell (j := 3) rfl
                  have b4 := OB.out.cell (j := 4) rfl
                  have b5 := OB.out.cell (j := 5) rfl
                  have b6 := OB.out.cell (j := 6) rfl
                  go_wp2_with fail
                  refine (K.out _).mono ?_; rintro e w9 ⟨rfl, hb9⟩
                  have own := OB.out.on hb9
                  have T9 : Hid (Bt (w.heap.size + 1) wa w9) := Lib.hid (Bt.of hb9)
                  clear hb9 b0 b1 b2 b3 b4 b5 b6 K
                  have s0 := own.cell (j := 0) rfl
                  have s1 := own.cell (j := 1) rfl
                  have s2 := own.cell (j := 2) rfl
                  have s3 := own.cell (j := 3) rfl
                  have s4 := own.cell (j := 4) rfl
                  have s5 := own.cell (j := 5) rfl
                  have s6 := own.cell (j := 6) rfl
                  have f0 := own.free 0
                  have f1 := own.free 1
                  have f2 := own.free 2
                  have f3 := own.free 3
                  have f4 := own.free 4
                  have f5 := own.free 5
                  have f6 := own.free 6
                  have O9 := Lib.hid own
                  clear own
                  go_wp2_with fail
                  go_meet
                  case rel => exact ⟨3, 0, nx, HQ2, Lib.hid (Or.inr rfl), Lib.hid (put7 O9.out rfl _ _ _ _ _ _ _ ), Lib.hid (T9.out.trans (bt7 _ _ _ _ _ _ _ _ _ ))⟩
                · have hkd : (x.kind == 2) = false := by rw [beq_eq_false_iff_ne]; exact hk2
                  clear hk0 hk1 hk2
                  have K : Hid (∀ W, Calls Try.prog 17 #[.agg #[.bool p.e.a.v6, .int .u64 p.e.a.hi, .int .u64 p.e.a.lo, .int .i64 p.e.n, .int .i64 st, .int .i64 f, .int .i64 nx]] W fun e w' => e = .returned (.agg #[.bool p.e.a.v6, .int .u64 p.e.a.hi, .int .u64 p.e.a.lo, .int .i64 p.e.n, .int .i64 1, .int .i64 f, .int .i64 nx]) ∧ Below W.heap.size W w') := Lib.hid fun W => down_any (⟨p.e, st, f, nx⟩ : Ey) W
                  have HQ2 : Hid (rightY (⟨p.e, 1, f, nx⟩ : Ey) = true) := Lib.hid (state_right (y := (⟨p.e, st, f, nx⟩ : Ey)) HQ.out (s := 1) (by decide))
                  have b0 := OB.out.cell (j := 0) rfl
                  have b1 := OB.out.cell (j := 1) rfl
                  have b2 := OB.out.cell (j := 2) rfl
                  have b3 := OB.out.cell (j := 3) rfl
                  have b4 := OB.out.cell (j := 4) rfl
                  have b5 := OB.out.cell (j := 5) rfl
                  have b6 := OB.out.cell (j := 6) rfl
                  go_wp2_with fail
                  refine (K.out _).mono ?_; rintro e w9 ⟨rfl, hb9⟩
                  have own := OB.out.on hb9
                  have T9 : Hid (Bt (w.heap.size + 1) wa w9) := Lib.hid (Bt.of hb9)
                  clear hb9 b0 b1 b2 b3 b4 b5 b6 K
                  have s0 := own.cell (j := 0) rfl
                  have s1 := own.cell (j := 1) rfl
                  have s2 := own.cell (j := 2) rfl
                  have s3 := own.cell (j := 3) rfl
                  have s4 := own.cell (j := 4) rfl
                  have s5 := own.cell (j := 5) rfl
                  have s6 := own.cell (j := 6) rfl
                  have f0 := own.free 0
                  have f1 := own.free 1
                  have f2 := own.free 2
                  have f3 := own.free 3
                  have f4 := own.free 4
                  have f5 := own.free 5
                  have f6 := own.free 6
                  have O9 := Lib.hid own
                  clear own
                  go_wp2_with fail
                  go_meet
                  case rel => exact ⟨1, f, nx, HQ2, Lib.hid (Or.inr rfl), Lib.hid (put7 O9.out rfl _ _ _ _ _ _ _ ), Lib.hid (T9.out.trans (bt7 _ _ _ _ _ _ _ _ _ ))⟩
          case rest =>
            obtain ⟨st2, f2, nx2, HQ2, HD, HB2, HT2⟩ := hcut
            have K : Hid (∀ W, Calls Try.prog 5 #[.agg #[.bool p.e.a.v6, .int .u64 p.e.a.hi, .int .u64 p.e.a.lo, .int .i64 p.e.n, .int .i64 st2, .int .i64 f2, .int .i64 nx2]] W fun e w' => e = .returned (.bool true) ∧ Below W.heap.size W w') := Lib.hid fun W => by have k := rightY_any (⟨p.e, st2, f2, nx2⟩ : Ey) (right_ok HE.out HQ2.out) W; rwa [HQ2.out] at k
            have OA2 := Lib.hid (OA.out.but HT2.out (Nat.ne_of_gt HL.out))
            have OW2 := Lib.hid (OW.out.but HT2.out (Nat.ne_of_gt (Nat.lt_succ_of_lt HL.out)))
            clear HQ OA OW OB OCa
            have b0 := HB2.out.cell (j := 0) rfl
            have b1 := HB2.out.cell (j := 1) rfl
            have b2 := HB2.out.cell (j := 2) rfl
            have b3 := HB2.out.cell (j := 3) rfl
            have b4 := HB2.out.cell (j := 4) rfl
            have b5 := HB2.out.cell (j := 5) rfl
            have b6 := HB2.out.cell (j := 6) rfl
            go_wp2_with fail
            refine (K.out _).mono ?_; rintro e w10 ⟨rfl, hb10⟩
            have HB3 := Lib.hid (HB2.out.on hb10)
            have OA3 := Lib.hid (OA2.out.on hb10)
            have OW3 := Lib.hid (OW2.out.on hb10)
            have HT3 := Lib.hid (((HT.out.trans TA.out).trans HT2.out).trans (Bt.of hb10))
            clear hb10 K HB2 OA2 OW2 b0 b1 b2 b3 b4 b5 b6
            have b0 := HB3.out.cell (j := 0) rfl
            have b1 := HB3.out.cell (j := 1) rfl
            have b2 := HB3.out.cell (j := 2) rfl
            have b3 := HB3.out.cell (j := 3) rfl
            have b6 := HB3.out.cell (j := 6) rfl
            have u0 := OW3.out.cell (j := 0) rfl
            have u1 := OW3.out.cell (j := 1) rfl
            have u2 := OW3.out.cell (j := 2) rfl
            have u3 := OW3.out.cell (j := 3) rfl
            have u6 := OW3.out.cell (j := 6) rfl
            have a0 := OA3.out.cell (j := 0) rfl
            by_cases hk1 : x.kind = 1
            · have hq : (x.kind != 1) = false := by rw [bne_eq_false_iff_eq]; exact hk1
              clear hk1
              go_wp2_with fail
              go_roundg (la.length - (k + 1))
              case measure => omega
              case rel => exact ⟨k + 1, st2, f2, nx2, by omega, by go_num, HQ2, HB3, HT3⟩
            · have hq : (x.kind != 1) = true := by rw [bne_iff_ne]; exact hk1
              obtain rfl : nx2 = nx := HD.out.resolve_left hk1
              clear hk1
              go_wp2_with fail
              go_roundg (la.length - (k + 1))
              case measure => omega
              case rel => exact ⟨k + 1, st2, f2, nx2, by omega, by go_num, HQ2, HB3, HT3⟩
        · have hkl : ¬ (k : Int) < (la.length : Int) := by omega
          go_wp2_with fail
          refine (AW.out _).mono ?_; rintro e w9 ⟨rfl, hb9⟩
          go_wp2_with fail
          go_ret
          exact ⟨rfl, low_trans LW.out hb9⟩
namespace entryWaits
theorem contract (H : Type) (enc : TypeId × Value → H) (W : World) (base : Nat) (args : Array Value) (ds gs : List (DataW H)) (before : List MemPlace)
    (hval0 : ∀ (j : Nat) t v, Try.f4.params[j]? = some t → args[j]? = some v → Value.okWide Try.prog W .any base t v)
    (hW : DataW.Whole enc Try.prog Try.f4.params.toList Rows.entryWaitsSpec.vars false W args.toList ds gs before) (hSh : W.ShapedOpen Try.prog) :
    Calls Try.prog 4 args W fun e W' => ∃ v, e = .returned v ∧ Rows.entryWaitsSpec.post enc Try.prog Try.f4 false true false false W args v W' := by
  have hval : ∀ (j : Nat) t v, Try.f4.params[j]? = some t → args[j]? = some v → Value.okWide Try.prog W .any base t v := hval0
  have hW' := hW
  obtain ⟨p, q, hA0, hV, _, _, _⟩ := hW
  have hA : DataW.TrodAll enc Try.prog W 0 (fun _ => true) true Try.f4.params.toList args.toList ds p := hA0
  rw [Try.params4] at hA hval
  obtain ⟨v0, vs0, d0, ds0, p0, q0, hargs, rfl, rfl, h0, r0⟩ := trodAll_cons hA
  obtain ⟨v1, vs1, d1, ds1, p1, q1, rfl, rfl, rfl, h1, r1⟩ := trodAll_cons r0
  obtain ⟨v2, vs2, d2, ds2, p2, q2, rfl, rfl, rfl, h2, r2⟩ := trodAll_cons r1
  obtain ⟨rfl, rfl, rfl⟩ := trodAll_nil r2
  obtain rfl : args = #[v0, v1, v2] := by cases args; simp_all
  obtain ⟨rfl, rfl⟩ := trodVars_none hV
  obtain ⟨a0, z0, rfl⟩ := open_conf (hval 0 26 v0 rfl rfl) h0
  obtain ⟨a1, z1, rfl⟩ := open_entry (hval 1 32 v1 rfl rfl) h1
  obtain ⟨l2, t2, n2, s2⟩ := open_acts25 (hval 2 42 v2 rfl rfl) h2
  clear hA0 hval0
  refine (entryWaits_walk W a0 z0 a1 z1 v2 l2 t2 s2).mono fun e W' ⟨he, hg⟩ => ?_
  subst he
  exact ⟨_, rfl, post_law laidOut (by kernel_rfl) (by kernel_rfl) Try.underlying4 rfl hW' rfl rfl rfl hg⟩
set_option maxRecDepth 100000 in
theorem lifted (os : Os) (started : os.Started) (H : Type) (enc : TypeId × Value → H) (F : Stop.Interp) :
    ReturnsInHanded {} Try.checked os 4 .any ((OpenSpec.ofChange Rows.entryWaitsSpec).preRow enc Try.prog Try.f4 Rows.entryWaitsRow.domain false Rows.entryWaitsRow.laid) (((OpenSpec.ofChange Rows.entryWaitsSpec).at F).post enc Try.prog Try.f4 false true false false) := by
  refine returnsInHanded_of_row (C := Try.checked) (s := OpenSpec.ofChange Rows.entryWaitsSpec) own started (by kernel_rfl) Try.func4
    (witness_laid (enc := enc) (C := Try.checked) (s := OpenSpec.ofChange Rows.entryWaitsSpec) (laid := Rows.entryWaitsRow.laid) #[.agg #[.int .i64 0, .int .i64 0, .int .i64 0, .int .i64 0, .int .i64 0, .int .u64 0, .int .i64 0, .int .i64 0, .int .i64 0, .int .i64 0, .int .i64 0, .int .i64 0, .int .i64 0, .int .i64 0, .int .i64 0, .int .i64 0], .agg #[.bool false, .int .u64 0, .int .u64 0, .int .i64 0, .int .i64 0, .int .i64 0, .int .i64 0], .slice none 0 0] (World.shaped_of_ZipB (by kernel_rfl) (by kernel_rfl)) (by kernel_rfl)
      (OpenSpec.preRow_of_cond 8 (x := ([.agg [.lit (.int .i64 0), .lit (.int .i64 0), .lit (.int .i64 0), .lit (.int .i64 0), .lit (.int .i64 0), .lit (.int .u64 0), .agg [.lit (.int .i64 0), .lit (.int .i64 0), .lit (.int .i64 0), .lit (.int .i64 0)], .lit (.int .i64 0), .lit (.int .i64 0), .lit (.int .i64 0), .lit (.int .i64 0), .lit (.int .i64 0), .lit (.int .i64 0)], .agg [.agg [.agg [.lit (.bool false), .lit (.int .u64 0), .lit (.int .u64 0)], .lit (.int .i64 0)], .lit (.int .i64 0), .lit (.int .i64 0), .lit (.int .i64 0)], .nil], [], [])) (by kernel_rfl) (by kernel_rfl) (fun k hk => by cases hk) (by kernel_rfl)
        (by rw [MakeChecks.laidMetH_plain _ _ _ (by kernel_rfl)]; exact laidMet_laidAll _ (by kernel_rfl) (by kernel_rfl)))) ?_
  intro W base args ds gs before hval hW _ hcond _ _ hsh _
  exact contract H enc W base args ds gs before hval hW hsh
theorem over : Rows.entryWaitsRow.holds Try.pinned (OpenSpec.ofChange Rows.entryWaitsSpec) :=
  OpenClaim.holds_of_cond 4 Try.f4 rfl rfl rfl rfl rfl rfl rfl ⟨rfl, rfl, rfl, rfl, rfl⟩ rfl rfl rfl rfl rfl (by kernel_rfl) Try.func4 (by kernel_rfl)
    (of_decide_eq_true (by kernel_rfl)) (by unfold Func.isWrapper; first | (rw [if_pos (by decide +kernel)]; kernel_rfl) | (rw [if_neg (by decide +kernel)]; exact ⟨rfl, rfl⟩))
    (fun os started H enc _ F => by rw [OpenClaim.pre_eq_preRow]; exact lifted os started H enc F)
/-- ████ THE STATEMENT ████ -/
theorem proved : Rows.EntryWaitsSaid := over
end entryWaits
end Go.Proofs.Ytnknhmfhejdbfaa
