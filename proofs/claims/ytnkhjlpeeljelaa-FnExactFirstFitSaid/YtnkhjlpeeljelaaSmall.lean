/- Small lemmas of this folder's walks. -/
import Derived.WalkKit
import Derived.ProofKit
import Derived.Below
import Derived.Lib.Hide
import Derived.Laws.IdiomStrings
namespace Go.Proofs.Ytnkhjlpeeljelaa
open Go.RowKit

theorem bcell {W w1 : World} (hb : Below W.heap.size W w1) : (∀ b o, b < W.heap.size → w1.cell? ⟨b, o, none⟩ = W.cell? ⟨b, o, none⟩) ∧ (∀ b o, b < W.heap.size → w1.frozen? ⟨b, o, none⟩ = W.frozen? ⟨b, o, none⟩) :=
  ⟨fun b o h => hb.cell (p := ⟨b, o, none⟩) h, fun b o h => hb.frozen (p := ⟨b, o, none⟩) h⟩

/-- 'string' of a slice of one byte. -/
theorem conv_one {P : Program} {T S E : TypeId} (hT : P.underlying T = some (.slice E)) (hE : P.underlying E = some (.int .u8)) (hS : P.underlying S = some .string) (b : UInt8) (x : Int) (hx : (b.toNat : Int) = x) :
    ∀ (W : World) (g cap : Nat), W.cell? ⟨g, 0, none⟩ = some (.int .u8 x) → (convert T S (.slice (some ⟨g, 0, none⟩) 1 cap)).run P W = .ok (.string ⟨#[b]⟩) W := by
  intro W g cap h
  subst hx
  exact run_convert_bytes_back W T S E ⟨g, 0, none⟩ cap [b] hT hE hS (fun j hj => by
    obtain rfl : j = 0 := by simpa using hj
    simpa [Addr.add] using h)

end Go.Proofs.Ytnkhjlpeeljelaa
