/- Contracts of package trie, fourth part: with and without as a whole; closures that tell what a node holds. -/
import Derived.Test.YtgnpnmdndlodlaaTriC
namespace Go.Proofs.Ytgnpnmdndlodlaa.Tr
set_option maxRecDepth 100000
open Go.ChangeShapes Go.WideShapes Go.ChangeAt Go.RowKit
open Dec Words V4 V6 Ad Ci
set_option linter.unusedVariables false
theorem bits_apart {n m : Net} (hn : Ok n) (hv : n.a.v6 = m.a.v6) (hm : Ok m) (hw : withinN n m = false) (hs : sharedN n m ≠ n) : bitA n.a (sharedN n m).n = 1 - bitA m.a (sharedN n m).n ∧ (bitA m.a (sharedN n m).n = 0 ∨ bitA m.a (sharedN n m).n = 1) := by
  have hlt := shared_less hn hm hv hw
  obtain ⟨hlt2, hsn⟩ := shared_sub' hn hv hs
  have hsm := shared_sub hn hv hlt
  have hS := (shared_is (n := m) hn).2
  have h1 := shared_part hlt2 hlt
  rw [bit_cast hS hn hsn, bit_cast hS hm hsm]
  have := bitN_two n.a (commN n m)
  have := bitN_two m.a (commN n m)
  omega
theorem bitA_two (a : Adr) (i : Int) : bitA a i = 0 ∨ bitA a i = 1 := by
  unfold bitA
  split
  · have := bitN_two a i.toNat; omega
  · exact Or.inl rfl
theorem with_any (n : Net) (v : Int) (hn : Ok n) : ∀ (t : Tri) (S : Nat → Prop) (p : Option Addr) (w : World), (∀ b, S b → b < w.heap.size) → At S w t p → t.good → t.kind n.a.v6 →
    Calls Try.prog 34 #[.pointer p, .agg #[.bool n.a.v6, .int .u64 n.a.hi, .int .u64 n.a.lo, .int .i64 n.n], .int .i64 v] w (PutR S w (t.put n v))
  | .leaf, S, p, w, hS, hp, _, _ => by
    have e : p = none := hp
    subst e
    exact with_same none n v false 0 none none .leaf .leaf S w hS rfl rfl (Lib.hid fun W _ => over_leaf n W)
  | .node m i x z o, S, p, w, hS, ⟨b, pz, po, e, hsb, hN, hz, ho⟩, g, hk => by
    subst e
    have gg := g
    obtain ⟨hm, hx, h0, h1, g0, g1⟩ := g
    have kk : n.a.v6 = m.a.v6 := hk.1.symm
    have hS' : ∀ W, Below w.heap.size w W → ∀ b, S b → b < W.heap.size := fun W hW b hb => Nat.lt_of_lt_of_le (hS b hb) hW.size
    unfold Tri.put
    by_cases hw : withinN n m = true
    · rw [if_pos hw]
      have OV : Hid (∀ W, Below w.heap.size w W → Calls Try.prog 41 #[.pointer (some ⟨b, 0, none⟩), .agg #[.bool n.a.v6, .int .u64 n.a.hi, .int .u64 n.a.lo, .int .i64 n.n]] W fun e w' => e = .returned (.agg #[.bool m.a.v6, .int .u64 m.a.hi, .int .u64 m.a.lo, .int .i64 m.n, .bool i, .int .i64 x, .pointer pz, .pointer po]) ∧ Below W.heap.size W w') := Lib.hid fun W hW => over_in n m i x pz po b W hn.ok hm.ok (hN.on hW) hw
      by_cases e : m = n
      · rw [if_pos e]
        subst e
        exact with_same _ m v i x pz po z o S w hS hz ho OV
      · rw [if_neg e]
        rcases bitA_two n.a m.n with hb | hb
        · rw [if_pos hb]
          exact with_half0 _ n m v i x pz po z o _ S w hS hz ho hn.ok hm.ok e hb OV (Lib.hid fun W hW => with_any n v hn z S pz W (hS' W hW) (hz.on hW) g0 hk.2.1)
        · rw [if_neg (by omega)]
          exact with_half1 _ n m v i x pz po z o _ S w hS hz ho hn.ok hm.ok e hb OV (Lib.hid fun W hW => with_any n v hn o S po W (hS' W hW) (ho.on hW) g1 hk.2.2)
    · rw [if_neg hw]
      have hw' : withinN n m = false := by simpa using hw
      have hp : At S w (.node m i x z o) (some ⟨b, 0, none⟩) := At.node' hsb hN hz ho
      have LF : Hid (∀ W, Below w.heap.size w W → Calls Try.prog 34 #[.pointer none, .agg #[.bool n.a.v6, .int .u64 n.a.hi, .int .u64 n.a.lo, .int .i64 n.n], .int .i64 v] W (PutR S W (Tri.leaf.put n v))) := Lib.hid fun W hW => with_same none n v false 0 none none .leaf .leaf S W (hS' W hW) rfl rfl (Lib.hid fun W _ => over_leaf n W)
      by_cases e : sharedN n m = n
      · rw [if_pos e]
        rcases bitA_two m.a (sharedN n m).n with hb | hb
        · rw [if_pos hb]
          refine with_same _ n v false 0 (some ⟨b, 0, none⟩) none _ .leaf S w hS hp rfl (Lib.hid fun W hW => ?_)
          have := over_up0 n m i x pz po b W hn hm kk (hN.on hW) hw' hb
          rwa [e] at this
        · rw [if_neg (by omega)]
          refine with_same _ n v false 0 none (some ⟨b, 0, none⟩) .leaf _ S w hS rfl hp (Lib.hid fun W hW => ?_)
          have := over_up1 n m i x pz po b W hn hm kk (hN.on hW) hw' hb
          rwa [e] at this
      · rw [if_neg e]
        obtain ⟨ha, hb⟩ := bits_apart hn kk hm hw' e
        have hS1 := (shared_is (n := m) hn).2.ok
        rcases hb with hb | hb
        · rw [if_pos hb]
          exact with_half1 _ n (sharedN n m) v false 0 (some ⟨b, 0, none⟩) none _ .leaf _ S w hS hp rfl hn.ok hS1 e (by omega) (Lib.hid fun W hW => over_up0 n m i x pz po b W hn hm kk (hN.on hW) hw' hb) LF
        · rw [if_neg (by omega)]
          exact with_half0 _ n (sharedN n m) v false 0 none (some ⟨b, 0, none⟩) .leaf _ _ S w hS rfl hp hn.ok hS1 e (by omega) (Lib.hid fun W hW => over_up1 n m i x pz po b W hn hm kk (hN.on hW) hw' hb) LF
theorem without_any (n : Net) (hn : n.ok) : ∀ (t : Tri) (S : Nat → Prop) (p : Option Addr) (w : World), (∀ b, S b → b < w.heap.size) → At S w t p → t.good → (∃ y ∈ t.list, y.n = n) →
    Calls Try.prog 35 #[.pointer p, .agg #[.bool n.a.v6, .int .u64 n.a.hi, .int .u64 n.a.lo, .int .i64 n.n]] w (PutR S w (t.del n))
  | .leaf, S, p, w, hS, hp, _, h => by obtain ⟨y, hy, _⟩ := h; simp [Tri.list] at hy
  | .node m i x z o, S, p, w, hS, ⟨b, pz, po, e, hsb, hN, hz, ho⟩, g, h => by
    subst e
    have gg := g
    obtain ⟨hm, hx, h0, h1, g0, g1⟩ := g
    have hS' : ∀ W, Below w.heap.size w W → ∀ b, S b → b < W.heap.size := fun W hW b hb => Nat.lt_of_lt_of_le (hS b hb) hW.size
    unfold Tri.del
    by_cases e : m = n
    · rw [if_pos e]
      subst e
      exact without_same b m i x pz po z o S w hz ho hN
    · rw [if_neg e]
      obtain ⟨_, hh⟩ := Tri.in_half gg e h
      rcases hh with ⟨hb, hy⟩ | ⟨hb, hy⟩
      · rw [if_pos hb]
        exact without_half0 b n m i x pz po z o _ S w hS hz ho hN hn hm.ok e hb (Lib.hid fun W hW => without_any n hn z S pz W (hS' W hW) (hz.on hW) g0 hy)
      · rw [if_neg (by omega)]
        exact without_half1 b n m i x pz po z o _ S w hS hz ho hN hn hm.ok e hb (Lib.hid fun W hW => without_any n hn o S po W (hS' W hW) (ho.on hW) g1 hy)
end Go.Proofs.Ytgnpnmdndlodlaa.Tr
