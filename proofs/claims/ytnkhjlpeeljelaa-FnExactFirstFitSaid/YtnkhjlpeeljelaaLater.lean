/- A region that draws its order, whose callees only make memory of their own and hand back what hangs on no world: one walk in the order of the text. -/
import Derived.Test.YtnkhjlpeeljelaaFlat
import Derived.Test.YtnkhjlpeeljelaaChecked
import Derived.BigQuiet
import Derived.Deep.QuietTactic
import Derived.Deep.Draws
namespace Go.Proofs.Ytnkhjlpeeljelaa
open Go.RowKit

/-- A world in which whatever lay in w lies as it lay. -/
structure Later (w : World) where
  wd : World
  h : Below w.heap.size w wd
instance instInhabitedLater (w : World) : Inhabited (Later w) := ⟨⟨w, Below.refl _ _⟩⟩
theorem wp_region_later {P : Program} {id : Nat} {Q : Exit → Act → World → Prop} {a : Act} {w : World} {l : List Oper} (hm : P.follows .mixedOrders = true) (hB : Region.lexB .any l.toArray = true)
    (h : wpQuiet P l.toArray (fun W => ∃ p : Later w, W = p.wd) (fun a' => ∀ W, (∃ p : Later w, W = p.wd) → Q .normal a' W) l a) : (Code.region id l.toArray true).wp P Q a w :=
  wp_region_quiet (C := fun W => ∃ p : Later w, W = p.wd) hm hB ⟨⟨w.drew, (Below.refl _ _).drew⟩, rfl⟩ (by simpa using h)
theorem Later.cell {w : World} {a : Addr} {v : Value} (h : w.cell? a = some v) (p : Later w) : p.wd.cell? a = some v := by
  rw [p.h.cell (p := a) ?_]
  · exact h
  · rcases Nat.lt_or_ge a.block w.heap.size with h2 | h2
    · exact h2
    · unfold World.cell? at h
      rw [Array.getElem?_eq_none h2] at h
      simp at h
theorem Calls.later_of {P : Program} {f : FuncId} {args : Array Value} {w : World} {p : Later w} {v : Value}
    (h : Calls P f args p.wd fun e w' => e = .returned v ∧ Below p.wd.heap.size p.wd w') : Calls P f args p.wd fun e w'' => e = .returned v ∧ ∃ p' : Later w, w'' = p'.wd :=
  h.mono fun _ _ ⟨he, hb⟩ => ⟨he, ⟨_, p.h.trans (hb.mono p.h.size)⟩, rfl⟩
theorem Calls.later_same {P : Program} {f : FuncId} {args : Array Value} {w : World} {p : Later w} {v : Value}
    (h : Calls P f args p.wd fun e w' => e = .returned v ∧ w' = p.wd) : Calls P f args p.wd fun e w'' => e = .returned v ∧ ∃ p' : Later w, w'' = p'.wd :=
  h.mono fun _ _ ⟨he, hb⟩ => ⟨he, p, hb⟩
theorem follows_mixed : Try.prog.follows .mixedOrders = true := by kernel_rfl

end Go.Proofs.Ytnkhjlpeeljelaa
