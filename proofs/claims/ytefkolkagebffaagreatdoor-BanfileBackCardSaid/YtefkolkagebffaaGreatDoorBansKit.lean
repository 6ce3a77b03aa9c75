/- Lists of bans in memory: their cells; a list of the call's own; append. -/
import Derived.Test.YtefkolkagebffaaGreatDoorBansMath
import Derived.Test.YtefkolkagebffaaGreatDoorBanDoor
import Derived.Test.YtefkolkagebffaaGreatDoorBlk
import Derived.Test.YtefkolkagebffaaGreatDoorCls
import Derived.Lib.MinMax
import Derived.Deep.RegionHeld3
import Derived.Deep.RegionWith
namespace Go.Proofs.YtefkolkagebffaaGreatDoor.Ba
set_option maxRecDepth 100000
open Go.ChangeShapes Go.WideShapes Go.ChangeAt Go.RowKit
open Dec Words V4 V6 Ad Ci
set_option linter.unusedVariables false
theorem bans_at {w : World} {b o : Nat} {l : List Ban} (h : ∀ i (h : i < l.length) j u, (encB l[i])[j]? = some u → w.cell? ⟨b, o + i * 5 + j, none⟩ = some u) {k : Nat} (hk : k < l.length) :
    w.cell? ⟨b, o + k * 5, none⟩ = some (.bool l[k].n.a.v6) ∧ w.cell? ⟨b, o + k * 5 + 1, none⟩ = some (.int .u64 l[k].n.a.hi) ∧ w.cell? ⟨b, o + k * 5 + 2, none⟩ = some (.int .u64 l[k].n.a.lo) ∧ w.cell? ⟨b, o + k * 5 + 3, none⟩ = some (.int .i64 l[k].n.n) ∧ w.cell? ⟨b, o + k * 5 + 4, none⟩ = some (.int .i64 l[k].t) :=
  ⟨h k hk 0 _ rfl, h k hk 1 _ rfl, h k hk 2 _ rfl, h k hk 3 _ rfl, h k hk 4 _ rfl⟩
abbrev OwnB (B : Nat) (w : World) (v : Value) (l : List Ban) : Prop := w.ownsRow B 40 5 v l.length (flat encB l)
theorem ownB_empty (W : World) (b : Nat) (hb : b = W.heap.size) : OwnB b (W.alloc (.cells #[] 40)) (.slice (some ⟨b, 0, none⟩) 0 0) [] := by
  subst hb
  exact World.ownsRow_made W #[] 0 (Nat.le_refl _) (by simp [maxLen]) rfl
theorem ownB_drew {B : Nat} {W : World} {v : Value} {l : List Ban} (h : OwnB B W v l) (n : Nat) : OwnB B (W.drewN n) v l := h.kept (row := none) ⟨rfl, rfl, rfl, Nat.le_refl _, fun _ _ _ => rfl⟩ (by cases v.ownBlock <;> simp)
theorem ownB_recs {B : Nat} {W : World} {v : Value} {l : List Ban} (h : OwnB B W v l) : Bans W v l := (recs_own encB_len (by decide) h).1
/-- Bans put behind bans. -/
theorem append_bans {B : Nat} {W : World} {v x : Value} {xs ys : List Ban} (hown : OwnB B W v xs) (hy : Bans W x ys) (hlen : xs.length + ys.length ≤ 1000000) (hB : B ≤ W.heap.size) :
    ∃ v' w', (Builtin.append_ #[22, 22] 22 #[v, x]).run Tryz.prog W = .ok v' w' ∧ OwnB B w' v' (xs ++ ys) ∧ Below B W w' :=
  append_recs (P := Tryz.prog) (z := .agg #[.bool false, .int .u64 0, .int .u64 0, .int .i64 0, .int .i64 0]) (bytes := 40) Tryz.underlying22 (by kernel_rfl) rfl (by decide) encB_len encB_one hown hy (by omega) (by omega) hB
theorem append_one {B : Nat} {W : World} {v : Value} {xs : List Ban} (hown : OwnB B W v xs) (y : Ban) (hlen : xs.length ≤ 900000) (hB : B ≤ W.heap.size) :
    ∃ v' w', (Builtin.append_ #[22, 22] 22 #[v, .slice (some ⟨W.heap.size, 0, none⟩) 1 1]).run Tryz.prog (W.alloc (.cells #[.bool y.n.a.v6, .int .u64 y.n.a.hi, .int .u64 y.n.a.lo, .int .i64 y.n.n, .int .i64 y.t] 40)) = .ok v' w' ∧ OwnB B w' v' (xs ++ [y]) ∧ Below B W w' := by
  obtain ⟨v', w', h1, h2, h3⟩ := append_bans (B := B) (hown.alloc (.cells #[.bool y.n.a.v6, .int .u64 y.n.a.hi, .int .u64 y.n.a.lo, .int .i64 y.n.n, .int .i64 y.t] 40)) (Recs.lit encB_len W [y] #[.bool y.n.a.v6, .int .u64 y.n.a.hi, .int .u64 y.n.a.lo, .int .i64 y.n.n, .int .i64 y.t] 40 (by rw [flat_one]; rfl)) (by simp; omega) (Nat.le_trans hB (by simp))
  exact ⟨v', w', h1, h2, ((Below.refl B W).alloc hB _).trans h3⟩
end Go.Proofs.YtefkolkagebffaaGreatDoor.Ba
