/- Plain facts on the hexadecimal text of a list of bytes; no program is named here. -/
import Derived.WalkKit
namespace Go.Proofs.YtopkdkehkdhmgabDoor.Hex

/-- The digit of a number below 16. -/
def dig (x : Nat) : UInt8 := if x < 10 then UInt8.ofNat (48 + x) else UInt8.ofNat (87 + x)
/-- The two digits of a byte. -/
def pair (c : UInt8) : List UInt8 := [dig (c.toNat / 16), dig (c.toNat % 16)]
/-- The digits of a text. -/
def enc (l : List UInt8) : List UInt8 := l.flatMap pair

theorem enc_snoc (l : List UInt8) (c : UInt8) : enc (l ++ [c]) = enc l ++ pair c := by simp [enc]
theorem enc_length (l : List UInt8) : (enc l).length = 2 * l.length := by
  induction l with
  | nil => rfl
  | cons c l ih =>
    have : enc (c :: l) = pair c ++ enc l := rfl
    rw [this, List.length_append, ih]
    simp [pair]
    omega

/-- The value of a digit: 16 for a byte that is none. -/
def val (c : UInt8) : Nat := if 48 ≤ c.toNat ∧ c.toNat ≤ 57 then c.toNat - 48 else if 97 ≤ c.toNat ∧ c.toNat ≤ 102 then c.toNat - 87 else 16
/-- The bytes of a text of digits, as far as they can be read: none at the first byte that is no digit. -/
def dec : List UInt8 → Option (List UInt8)
  | a :: b :: l => if val a = 16 ∨ val b = 16 then none else (dec l).map (UInt8.ofNat (16 * val a + val b) :: ·)
  | _ => some []

end Go.Proofs.YtopkdkehkdhmgabDoor.Hex
