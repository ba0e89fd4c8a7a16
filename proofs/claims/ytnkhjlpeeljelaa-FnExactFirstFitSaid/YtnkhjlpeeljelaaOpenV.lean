/- Rows of numbers that came in, read as values. -/
import Derived.Test.YtnkhjlpeeljelaaOpen
import Derived.Test.YtnkhjlpeeljelaaOwnV
namespace Go.Proofs.Ytnkhjlpeeljelaa
open Go.RowKit Go.ChangeShapes Go.WideShapes Go.Deep

theorem rows_openV {H : Type} {enc : TypeId × Value → H} {P : Program} {W : World} {base : Nat} {spare : Nat → Bool} {held : Bool} {t e : TypeId} {fs : Array Field} {K n c : Nat} {p : Option Addr} {x : DataW H × List MemPlace}
    (ht : P.underlying t = some (.slice e)) (he : P.underlying e = some (.struct fs)) (hone : oneCellFields P fs = true) (hC : P.cellsOf e = K) (hK : fs.size = K) (hpos : 0 < K) {T : TypeId} (hT : P.underlying T = some (.int .i64)) (hall : (fs.toList.all fun f => f.type == T) = true)
    (h : ∃ fuel, DataW.trod enc P W base spare held fuel t (Value.slice p n c).cells.toList = some x) :
    ∃ z : Nat → Int, n ≤ maxLen ∧ Rd W (.slice p n c) n (n * K) z := by
  obtain ⟨fuel, hf⟩ := h
  obtain ⟨g, o, z, h1, h2, h3, -⟩ := open_rows ht he hone hC hK hpos hT hall (by simpa [Value.cells] using hf)
  exact ⟨z, Nat.le_trans h1 h2, p, c, g, o, rfl, h1, h3⟩

theorem ints_openV {H : Type} {enc : TypeId × Value → H} {W : World} {base : Nat} {spare : Nat → Bool} {held : Bool} {p : Option Addr} {n c : Nat} {x : DataW H × List MemPlace}
    (h : ∃ fuel, DataW.trod enc Try.prog W base spare held fuel 35 (Value.slice p n c).cells.toList = some x) : ∃ z : Nat → Int, n ≤ maxLen ∧ Rd W (.slice p n c) n n z := by
  obtain ⟨g, o, z, h1, h2, h3⟩ := ints_open h
  exact ⟨z, Nat.le_trans h1 h2, p, c, g, o, rfl, h1, h3⟩

end Go.Proofs.Ytnkhjlpeeljelaa
