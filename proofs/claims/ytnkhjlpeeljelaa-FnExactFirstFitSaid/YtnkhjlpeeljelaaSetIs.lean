/- A set of numbers that the call makes (a map from numbers to bools). -/
import Derived.Test.YtnkhjlpeeljelaaSmall
import Derived.Test.YtnkhjlpeeljelaaChecked
import Derived.Maps.OwnSet
namespace Go.Proofs.Ytnkhjlpeeljelaa
open Go.RowKit Go.Maps
set_option linter.unusedVariables false

theorem lawIntB : Keyed Try.prog 3 := int_keyed Try.underlying3
theorem zeroBool (w : World) : (zeroValue 4).run Try.prog w = .ok (.bool false) w := by kernel_rfl
abbrev kB (x : Int) : Lit := .int .i64 x
theorem kB_ne {x y : Int} (h : x ≠ y) : kB x ≠ kB y := by intro e; injection e with _ e; exact h e
theorem keyB {x : Int} (h : (Lit.int .i64 x).wf = true) : keyOf Try.prog 3 (.int .i64 x) = some (kB x) := keyOf_int_mk Try.underlying3 h

theorem plainBool_inv {P : Program} {e : TypeId} {v : Value} {x : Bool} {ps : List MemPlace} (he : P.underlying e = some .bool) (h : plainElem (H := Unit) P e v = some (.lit (.bool x), ps)) : v = .bool x ∧ ps = [] := by
  unfold plainElem at h
  rw [he] at h
  cases v <;> simp at h
  exact ⟨by rw [h.1], h.2⟩
/-- Block b is a map of at most c entries; S tells which numbers it holds as true. -/
def SetIs (w : World) (b c : Nat) (S : Int → Bool) : Prop :=
  ∃ D : DataW Unit, w.ownsMap Try.prog 3 (plainElem Try.prog 4) b c D ∧ ∀ x, D.atKey (kB x) (.lit (.bool false)) = .lit (.bool (S x))
section
variable {w w' : World} {b c : Nat} {S : Int → Bool}
theorem SetIs.lt (h : SetIs w b c S) : b < w.heap.size := by obtain ⟨D, h, -⟩ := h; exact h.lt
theorem SetIs.congr (h : SetIs w b c S) {S' : Int → Bool} (he : ∀ x, S x = S' x) : SetIs w b c S' := by
  have : S = S' := funext he
  rw [← this]; exact h
theorem SetIs.made (w : World) : SetIs (w.alloc (.map #[] 0)) w.heap.size 0 (fun _ => false) :=
  ⟨.map [], World.ownsMap_made _ _ _ _, fun _ => rfl⟩
theorem SetIs.of_put {D : DataW Unit} (hi : IsMap D) (h2 : ∀ x, D.atKey (kB x) (.lit (.bool false)) = .lit (.bool (S x))) (k : Int) (h1 : w.ownsMap Try.prog 3 (plainElem Try.prog 4) b c (D.put (kB k) (.lit (.bool true)))) :
    SetIs w b c (fun x => if x = k then true else S x) := by
  refine ⟨_, h1, fun x => ?_⟩
  by_cases e : x = k
  · subst e
    show _ = DataW.lit (.bool (if x = x then true else S x))
    rw [atKey_put_same hi (show WideAt.IsKeyLit (kB x) from trivial), if_pos rfl]
  · show _ = DataW.lit (.bool (if x = k then true else S x))
    rw [atKey_put_other (kB_ne e), if_neg e, h2]
theorem SetIs.look (h : SetIs w b c S) {x : Int} (hw : (Lit.int .i64 x).wf = true) :
    (Instr.lookup 91 (.map (some b)) (.int .i64 x) false).run Try.prog w = .ok (.bool (S x)) w := by
  obtain ⟨D, h1, h2⟩ := h
  obtain ⟨v, ps, hrun, hv⟩ := h1.lookup lawIntB Try.underlying91 (zeroBool w) (plainElem_bool Try.underlying4 false) (keyB hw)
  rw [h2] at hv
  obtain ⟨rfl, -⟩ := plainBool_inv Try.underlying4 hv
  exact hrun
end

end Go.Proofs.Ytnkhjlpeeljelaa
