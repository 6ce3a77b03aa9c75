/- A region that draws its order, walked once, in a class of worlds: 'S w' holds ahead of it and behind each operation and call; each yields one value, whichever world of the class it stands in. -/
import Derived.Test.YtbonfmjalgfgaaaKit
namespace Go.Proofs.Ytbonfmjalgfgaaa
/-- A world of the class. -/
structure Cls (S : World → Prop) where
  w : World
  h : S w
theorem Cls.call {P : Program} {S : World → Prop} {f : FuncId} {args : Array Value} {W : World} {v : Value} (h : Calls P f args W fun e w' => e = .returned v ∧ S w') :
    Calls P f args W fun e w'' => e = .returned v ∧ ∃ m : Cls S, w'' = m.w := h.mono fun _ w' ⟨he, hs⟩ => ⟨he, ⟨w', hs⟩, rfl⟩
theorem Cls.region {P : Program} (S : World → Prop) {id : Nat} {Q : Exit → Act → World → Prop} {a : Act} {w : World} {l : List Oper} (hm : P.follows .mixedOrders = true) (hB : Region.lexB .any l.toArray = true) (hC : S (w.drewN 1))
    (h : wpQuiet P l.toArray (fun w' => ∃ n : Cls S, w' = n.w) (fun a' => ∀ n : Cls S, Q .normal a' n.w) l a) : (Code.region id l.toArray true).wp P Q a w := by
  refine wp_region_quiet (C := fun w' => ∃ n : Cls S, w' = n.w) hm hB ⟨⟨w.drewN 1, hC⟩, rfl⟩ ?_
  have e : (fun a' => ∀ w', (∃ n : Cls S, w' = n.w) → Q .normal a' w') = fun a' => ∀ n : Cls S, Q .normal a' n.w := by
    funext a'
    exact propext ⟨fun h n => h _ ⟨n, rfl⟩, fun h w' ⟨n, hn⟩ => hn ▸ h n⟩
  rw [e]
  simpa using h
end Go.Proofs.Ytbonfmjalgfgaaa
