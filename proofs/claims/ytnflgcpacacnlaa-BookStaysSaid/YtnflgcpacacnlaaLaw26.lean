/- Of the statements of layer 26 (book): books and ends that came in; the example. -/
import Derived.Test.YtnflgcpacacnlaaRef26Add
import Derived.Deep.RegionHeld3
namespace Go.Proofs.Ytnflgcpacacnlaa
set_option maxRecDepth 100000
open Go.ChangeShapes Go.WideShapes Go.ChangeAt Go.RowKit
open Ad Ci En Sat Bk Et Bo Go.Deep
set_option linter.unusedVariables false
/-- Entries that came in. -/
theorem open_book {H : Type} {enc : TypeId × Value → H} {W : World} {v : Value} {d : DataW H} {ps : List MemPlace} {r : Reach} {b0 : Nat}
    (hval : Value.okWide Try.prog W r b0 22 v) (h : DataW.Trod enc Try.prog W 0 (fun _ => true) true 22 v d ps) : ∃ xs : List Ey, Books W v xs ∧ xs.length ≤ 9223372036854775807 ∧ ∀ x ∈ xs, x.ok :=
  open_recs (encR := encY) (good := Ey.ok) Try.underlying22 (by kernel_rfl) (by decide) (fun _ _ _ hf hl => entry_cells hf hl) hval h
theorem end_cells {H : Type} {enc : TypeId × Value → H} {W : World} {fuel : Nat} {cs : List Value} {y : DataW H × List MemPlace}
    (hf : DataW.trod enc Try.prog W 0 (fun _ => true) true fuel 27 cs = some y) (hl : cs.length = 4) : ∃ x : Endp, cs = encD x ∧ x.ok := by
  match cs, hl with
  | [c0, c1, c2, c3], _ =>
  obtain ⟨N, hN, jN⟩ := net_cells (ta := 25) (tb := 4) (tu := 23) (ti := 3) Try.underlying27 rfl rfl Try.underlying25 (by kernel_rfl) rfl rfl (by kernel_rfl) (by kernel_rfl) (by kernel_rfl) rfl rfl rfl Try.underlying4 Try.underlying23 Try.underlying3 hf
  exact ⟨⟨N.a, N.n⟩, jN, hN⟩
/-- Ends that came in. -/
theorem open_ends {H : Type} {enc : TypeId × Value → H} {W : World} {v : Value} {d : DataW H} {ps : List MemPlace} {r : Reach} {b0 : Nat}
    (hval : Value.okWide Try.prog W r b0 42 v) (h : DataW.Trod enc Try.prog W 0 (fun _ => true) true 42 v d ps) : ∃ xs : List Endp, Bo.Ends W v xs ∧ xs.length ≤ 9223372036854775807 ∧ ∀ x ∈ xs, x.ok :=
  open_recs (encR := encD) (good := Endp.ok) Try.underlying42 (by kernel_rfl) (by decide) (fun _ _ _ hf hl => end_cells hf hl) hval h
def e26 : Ey := ⟨⟨⟨false, 0, 1⟩, 80⟩, 3, 0, 0⟩
theorem e26_ok : e26.ok := ⟨⟨⟨by decide, by decide⟩, by decide, by decide⟩, by unfold i64B; decide, by unfold i64B; decide, by unfold i64B; decide⟩
theorem e26_all : ∀ x ∈ [e26], x.ok := fun x hx => by rw [List.mem_singleton] at hx; subst hx; exact e26_ok
abbrev S26 (b : Nat) (W3 w' : World) : Prop := w'.cell? ⟨b, 0, none⟩ = some (.bool false) ∧ w'.cell? ⟨b, 1, none⟩ = some (.int .u64 0) ∧ w'.cell? ⟨b, 2, none⟩ = some (.int .u64 1) ∧ w'.cell? ⟨b, 3, none⟩ = some (.int .i64 80) ∧ w'.cell? ⟨b, 4, none⟩ = some (.int .i64 3) ∧ w'.cell? ⟨b, 5, none⟩ = some (.int .i64 0) ∧ w'.cell? ⟨b, 6, none⟩ = some (.int .i64 0) ∧ Lows W3 w'
set_option maxHeartbeats 8000000 in
theorem awake26_any (w : World) : Calls Try.prog 6 #[] w fun e w' => e = .returned (.bool true) ∧ Below w.heap.size w w' := by
  have L0 : Hid (Lows w (w.alloc (.cells #[.bool false, .int .u64 0, .int .u64 1, .int .i64 80, .int .i64 3, .int .i64 0, .int .i64 0] 29))) := Lib.hid (Lows.alloc (Lows.self w) _)
  have OB := Lib.hid (Blk.new w #[.bool false, .int .u64 0, .int .u64 1, .int .i64 80, .int .i64 3, .int .i64 0, .int .i64 0] 29)
  have K1 : Hid (Calls Try.prog 7 #[.slice none 0 0, .agg #[.bool false, .int .u64 0, .int .u64 1, .int .i64 80, .int .i64 3, .int .i64 0, .int .i64 0], .int .i64 2] (w.alloc (.cells #[.bool false, .int .u64 0, .int .u64 1, .int .i64 80, .int .i64 3, .int .i64 0, .int .i64 0] 29)) fun e w' => ∃ u, e = .returned (.tuple #[u, .int .i64 0]) ∧ Books w' u [e26] ∧ Below (w.alloc (.cells #[.bool false, .int .u64 0, .int .u64 1, .int .i64 80, .int .i64 3, .int .i64 0, .int .i64 0] 29)).heap.size (w.alloc (.cells #[.bool false, .int .u64 0, .int .u64 1, .int .i64 80, .int .i64 3, .int .i64 0, .int .i64 0] 29)) w') := Lib.hid (by
    have k := addL_any (.slice none 0 0) [] e26 2 (w.alloc (.cells #[.bool false, .int .u64 0, .int .u64 1, .int .i64 80, .int .i64 3, .int .i64 0, .int .i64 0] 29)) (Recs.nil _ _ _) (fun _ h => absurd h List.not_mem_nil) e26_ok (by decide)
    rwa [show codeR [] e26 2 = 0 from by decide +kernel, show addR [] e26 2 = [e26] from by kernel_rfl] at k)
  have K2 : Hid (∀ W u, Books W u [e26] → Calls Try.prog 7 #[u, .agg #[.bool false, .int .u64 0, .int .u64 1, .int .i64 80, .int .i64 3, .int .i64 0, .int .i64 0], .int .i64 2] W fun e w' => ∃ x, e = .returned (.tuple #[x, .int .i64 7]) ∧ Below W.heap.size W w') := Lib.hid fun W u hu => by
    have k := addL_any u [e26] e26 2 W hu e26_all e26_ok (by decide)
    rw [show codeR [e26] e26 2 = 7 from by decide +kernel] at k
    exact k.mono fun e w' ⟨x, h1, _, h3⟩ => ⟨x, h1, h3⟩
  go_enter Try.func6, Try.ntmps6
  go_wp2_with fail
  refine K1.out.mono ?_; rintro e9 w2 ⟨u, rfl, hU, hb2⟩
  have L2 := Lib.hid (low_trans L0.out hb2)
  have OB2 := Lib.hid (OB.out.on hb2)
  have HU := Lib.hid hU
  have K3 := Lib.hid (K2.out w2 u hU)
  have b0 := OB2.out.cell (j := 0) rfl
  have b1 := OB2.out.cell (j := 1) rfl
  have b2 := OB2.out.cell (j := 2) rfl
  have b3 := OB2.out.cell (j := 3) rfl
  have b4 := OB2.out.cell (j := 4) rfl
  have b5 := OB2.out.cell (j := 5) rfl
  have b6 := OB2.out.cell (j := 6) rfl
  clear hU hb2 K1 K2 L0 OB
  go_wp2_with fail
  refine K3.out.mono ?_; rintro e9 w3 ⟨u3, rfl, hb3⟩
  have L3 := Lib.hid (low_trans L2.out hb3)
  have OB3 := Lib.hid (OB2.out.on hb3)
  have HU3 := Lib.hid (HU.out.below hb3)
  clear hb3 K3 L2 OB2 HU b0 b1 b2 b3 b4 b5 b6
  obtain ⟨b, hbb⟩ : ∃ b, b = w.heap.size := ⟨_, rfl⟩
  rw [← hbb] at OB3 ⊢
  clear hbb
  have IN : Hid (∀ w', Lows w3 w' → S26 b w3 w') := Lib.hid fun w' h => ⟨(OB3.out.on h).cell (j := 0) rfl, (OB3.out.on h).cell (j := 1) rfl, (OB3.out.on h).cell (j := 2) rfl, (OB3.out.on h).cell (j := 3) rfl, (OB3.out.on h).cell (j := 4) rfl, (OB3.out.on h).cell (j := 5) rfl, (OB3.out.on h).cell (j := 6) rfl, h⟩
  have JD : Hid (∀ W, S26 b w3 W → S26 b w3 W.drew) := Lib.hid fun W h => IN.out _ (low_drewN h.2.2.2.2.2.2.2 1)
  have JA : Hid (∀ W o, S26 b w3 W → S26 b w3 (W.alloc o)) := Lib.hid fun W o h => IN.out _ (Lows.alloc h.2.2.2.2.2.2.2 o)
  have KF : Hid (∀ W, S26 b w3 W → Calls Try.prog 11 #[u, .agg #[.bool false, .int .u64 0, .int .u64 1, .int .i64 80]] W fun e w' => e = .returned (.int .i64 0) ∧ S26 b w3 w') := Lib.hid fun W h => by
    have k := find_any u [e26] e26.e W (HU3.out.below h.2.2.2.2.2.2.2) e26_all (by decide)
    rw [show findR [e26] e26.e = 0 from by decide +kernel] at k
    exact k.mono fun e w' ⟨h1, h3⟩ => ⟨h1, IN.out _ (low_trans h.2.2.2.2.2.2.2 h3)⟩
  have KC : Hid (∀ W, S26 b w3 W → Calls Try.prog 16 #[u, .int .i64 3] W fun e w' => e = .returned (.int .i64 1) ∧ S26 b w3 w') := Lib.hid fun W h => by
    have k := count_any u [e26] 3 W (HU3.out.below h.2.2.2.2.2.2.2) (by decide)
    rw [show countR [e26] 3 = 1 from by decide +kernel] at k
    exact k.mono fun e w' ⟨h1, h3⟩ => ⟨h1, IN.out _ (low_trans h.2.2.2.2.2.2.2 h3)⟩
  have KD : Hid (∀ W g, S26 b w3 W → Blk W g 27 [.bool false, .int .u64 0, .int .u64 1, .int .i64 80] → Calls Try.prog 18 #[u, .slice (some ⟨g, 0, none⟩) 1 1] W fun e w' => ∃ x, e = .returned x ∧ Books w' x (downR [e26] [e26.e]) ∧ S26 b w3 w') := Lib.hid fun W g h hB => by
    have k := downL_any u (.slice (some ⟨g, 0, none⟩) 1 1) [e26] [e26.e] W (HU3.out.below h.2.2.2.2.2.2.2) (Blk.reads (m := 1) encD_len hB (by rfl) rfl (Nat.le_refl _)) (by decide) (by decide)
    exact k.mono fun e w' ⟨x, h1, h2, h3⟩ => ⟨x, h1, h2, IN.out _ (low_trans h.2.2.2.2.2.2.2 h3)⟩
  have KE : Hid (∀ W x, Books W x (downR [e26] [e26.e]) → S26 b w3 W → Calls Try.prog 16 #[x, .int .i64 3] W fun e w' => e = .returned (.int .i64 0) ∧ S26 b w3 w') := Lib.hid fun W x hx h => by
    have k := count_any x (downR [e26] [e26.e]) 3 W hx (by decide)
    rw [show countR (downR [e26] [e26.e]) 3 = 0 from by decide +kernel] at k
    exact k.mono fun e w' ⟨h1, h3⟩ => ⟨h1, IN.out _ (low_trans h.2.2.2.2.2.2.2 h3)⟩
  have KR : Hid (∀ W, S26 b w3 W → Calls Try.prog 9 #[u] W fun e w' => e = .returned (.bool true) ∧ S26 b w3 w') := Lib.hid fun W h => by
    have k := rightL_any u [e26] W (HU3.out.below h.2.2.2.2.2.2.2) e26_all (by decide)
    rw [show rightB [e26] = true from by decide +kernel] at k
    exact k.mono fun e w' ⟨h1, h3⟩ => ⟨h1, IN.out _ (low_trans h.2.2.2.2.2.2.2 h3)⟩
  have hk0 : S26 b w3 w3 := IN.out _ (Lows.self _)
  have hkd : S26 b w3 w3.drew := JD.out _ hk0
  obtain ⟨t0, t1, t2, t3, t4, t5, t6, t7⟩ := id hk0
  have HI := IN
  clear OB3 HU3 IN
  go_wp2_with fail
  refine (KF.out _ hk0).mono ?_; rintro e w4 ⟨rfl, hk4⟩
  clear t0 t1 t2 t3 t4 t5 t6 t7 hk0 hkd KF
  obtain ⟨t0, t1, t2, t3, t4, t5, t6, t7⟩ := id hk4
  go_wp2_with fail
  refine (KC.out _ hk4).mono ?_; rintro e w5 ⟨rfl, hk5⟩
  clear t0 t1 t2 t3 t4 t5 t6 t7 hk4 KC
  obtain ⟨t0, t1, t2, t3, t4, t5, t6, t7⟩ := id hk5
  have KD1 := Lib.hid (KD.out _ _ (JA.out _ (.cells #[.bool false, .int .u64 0, .int .u64 1, .int .i64 80] 27) hk5) (Blk.new w5 #[.bool false, .int .u64 0, .int .u64 1, .int .i64 80] 27))
  clear KD
  go_wp2_with fail
  refine KD1.out.mono ?_; rintro e w6 ⟨x, rfl, hX, hk6⟩
  have KE1 := Lib.hid (KE.out w6 x hX hk6)
  clear t0 t1 t2 t3 t4 t5 t6 t7 hk5 KD1 KE hX
  go_wp2_with fail
  refine KE1.out.mono ?_; rintro e w7 ⟨rfl, hk7⟩
  clear hk6 KE1
  go_wp2_with fail
  refine (KR.out _ hk7).mono ?_; rintro e w8 ⟨rfl, hk8⟩
  have HL9 := Lib.hid (low_trans L3.out hk8.2.2.2.2.2.2.2)
  clear hk7 KR
  go_wp2_with fail
  go_ret
  exact ⟨rfl, HL9.out⟩
end Go.Proofs.Ytnflgcpacacnlaa
