/- Lists of peers in memory, of no one package: those that came in, one read, one list put behind another; a place around. -/
import Derived.Test.YtbonfmjalgfgaaaRankTurns
import Derived.Test.YtbonfmjalgfgaaaPeerDoor
import Derived.Test.YtbonfmjalgfgaaaRecsDoor
import Derived.Test.YtbonfmjalgfgaaaDoor
import Derived.Test.YtbonfmjalgfgaaaBox
import Derived.Deep.CutRange
import Derived.Lib.MinMax
import Derived.Deep.DeepCutAuto
namespace Go.Proofs.Ytbonfmjalgfgaaa.Ra
set_option maxRecDepth 100000
open Go.ChangeShapes Go.WideShapes Go.ChangeAt Go.RowKit
open Dec Words V4 V6 Ad Ci En Sat Ha Pe Stb Gr Mi Go.Deep
set_option linter.unusedVariables false
abbrev Peers (w : World) (v : Value) (l : List Pr) : Prop := Recs 10 encP w v l
theorem low_trans'' {B : Nat} {a b c : World} (h : Below B a b) (k : Lows b c) (hB : B ≤ a.heap.size := by exact Nat.le_refl _) : Below B a c := h.trans (k.mono (Nat.le_trans hB h.size))
theorem peer_at {w : World} {bb o : Nat} {l : List Pr} {wr : World} (hlow : Below w.heap.size w wr) (hb : bb < w.heap.size) (hcc : ∀ i (h : i < l.length) j u, (encP l[i])[j]? = some u → w.cell? ⟨bb, o + i * 10 + j, none⟩ = some u) {i : Nat} (hi : i < l.length) {j : Nat} {u : Value} (hu : (encP l[i]!)[j]? = some u) : wr.cell? ⟨bb, o + i * 10 + j, none⟩ = some u := by
  rw [getElem!_pos l i hi] at hu
  exact (hlow.cell (p := ⟨bb, o + i * 10 + j, none⟩) hb).trans (hcc i hi j u hu)
abbrev OwnP (B : Nat) (w : World) (v : Value) (l : List Pr) : Prop := w.ownsRow B 50 10 v l.length (flat encP l)
theorem encP_len (x : Pr) : (encP x).length = 10 := rfl
theorem encP_one : ∀ x, ∀ u ∈ encP x, u.oneCell' = true := fun x u hu => by
  simp only [encP, List.mem_cons, List.not_mem_nil, or_false] at hu
  rcases hu with rfl | rfl | rfl | rfl | rfl | rfl | rfl | rfl | rfl | rfl <;> rfl
theorem ownP_lit (W : World) {B : Nat} (hB : B ≤ W.heap.size) : OwnP B (W.alloc (.cells #[] 50)) (.slice (some ⟨W.heap.size, 0, none⟩) 0 0) [] := World.ownsRow_made W #[] 0 hB (by simp [maxLen]) rfl
theorem append_peers {B : Nat} {W : World} {v x : Value} {xs ys : List Pr} (hown : OwnP B W v xs) (hy : Peers W x ys) (hlen : xs.length + ys.length ≤ 1000000) (hB : B ≤ W.heap.size) :
    ∃ v' w', (Builtin.append_ #[22, 22] 22 #[v, x]).run Try.prog W = .ok v' w' ∧ OwnP B w' v' (xs ++ ys) ∧ Below B W w' :=
  append_recs (P := Try.prog) (z := .agg #[.bool false, .int .u64 0, .int .u64 0, .int .i64 0, .bool false, .int .i64 0, .int .i64 0, .int .i64 0, .int .i64 0, .int .i64 0]) (bytes := 80) Try.underlying22 (by kernel_rfl) rfl (by decide) encP_len encP_one hown hy (by omega) (by omega) hB
theorem recs_at {w wr : World} {b o : Nat} {l : List Pr} (hb : b < w.heap.size) (hcc : ∀ i (h : i < l.length) j u, (encP l[i])[j]? = some u → w.cell? ⟨b, o + i * 10 + j, none⟩ = some u) {i : Nat} (hi : i < l.length) (hL : Lows w wr) {j : Nat} {u : Value} (hu : (encP l[i]!)[j]? = some u) : wr.cell? ⟨b, o + i * 10 + j, none⟩ = some u := by
  rw [getElem!_pos l i hi] at hu
  exact (hL.cell (p := ⟨b, o + i * 10 + j, none⟩) hb).trans (hcc i hi j u hu)
/-- Peers that came in. -/
theorem open_peers {H : Type} {enc : TypeId × Value → H} {W : World} {v : Value} {d : DataW H} {ps : List MemPlace} {r : Reach} {b0 : Nat}
    (hval : Value.okWide Try.prog W r b0 22 v) (h : DataW.Trod enc Try.prog W 0 (fun _ => true) true 22 v d ps) : ∃ xs : List Pr, Peers W v xs ∧ xs.length ≤ 9223372036854775807 ∧ ∀ x ∈ xs, x.ok :=
  open_recs (encR := encP) (good := Pr.ok) Try.underlying22 (by kernel_rfl) (by decide) (fun _ _ _ hf hl => peer_cells hf hl) hval h
theorem neqPeer_self (x : Pr) (w : World) : (binOp .neq 50 (.agg #[.bool x.e.a.v6, .int .u64 x.e.a.hi, .int .u64 x.e.a.lo, .int .i64 x.e.n, .bool x.i, .int .i64 x.t, .int .i64 x.c.p, .int .i64 x.c.a, .int .i64 x.g, .int .i64 x.k]) (.agg #[.bool x.e.a.v6, .int .u64 x.e.a.hi, .int .u64 x.e.a.lo, .int .i64 x.e.n, .bool x.i, .int .i64 x.t, .int .i64 x.c.p, .int .i64 x.c.a, .int .i64 x.g, .int .i64 x.k])).run Try.prog w = .ok (.bool false) w := by
  have h := eqPeer_self x w
  rw [run_eql_struct] at h
  rw [run_neq_struct]
  generalize (Op.equalIn 10000 50 (.agg #[.bool x.e.a.v6, .int .u64 x.e.a.hi, .int .u64 x.e.a.lo, .int .i64 x.e.n, .bool x.i, .int .i64 x.t, .int .i64 x.c.p, .int .i64 x.c.a, .int .i64 x.g, .int .i64 x.k]) (.agg #[.bool x.e.a.v6, .int .u64 x.e.a.hi, .int .u64 x.e.a.lo, .int .i64 x.e.n, .bool x.i, .int .i64 x.t, .int .i64 x.c.p, .int .i64 x.c.a, .int .i64 x.g, .int .i64 x.k])).run Try.prog w = r at h
  cases r with
  | ok x w' =>
    simp only [Result.andThen_ok, Result.ok.injEq, Value.bool.injEq] at h ⊢
    obtain ⟨rfl, rfl⟩ := h
    exact ⟨rfl, rfl⟩
  | halt x w' => cases h
end Go.Proofs.Ytbonfmjalgfgaaa.Ra
