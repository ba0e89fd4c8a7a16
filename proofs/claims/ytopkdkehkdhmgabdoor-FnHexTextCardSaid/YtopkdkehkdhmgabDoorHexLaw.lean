/- What a text's hexadecimal encoding is decoded to; texts that are too long; the numeral of ten. -/
import Derived.Test.YtopkdkehkdhmgabDoorDrawText
import Derived.Test.YtopkdkehkdhmgabDoorBig
import Derived.Test.YtopkdkehkdhmgabDoorHexDecI
import Derived.Test.YtopkdkehkdhmgabDoorFormatIntImpl
import Derived.Test.YtopkdkehkdhmgabDoorParsePlain
namespace Go.Proofs.YtopkdkehkdhmgabDoor
open Go.RowKit
set_option linter.unusedVariables false

theorem hv_dig (x : Nat) (h : x < 16) : hv (Hex.dig x) = (x : Int) := by
  unfold Hex.dig
  by_cases h9 : x < 10
  · rw [if_pos h9]
    have : (UInt8.ofNat (48 + x)).toNat = 48 + x := by simp only [UInt8.toNat_ofNat']; omega
    unfold hv
    rw [this, if_pos (by omega)]
    omega
  · rw [if_neg h9]
    have : (UInt8.ofNat (87 + x)).toNat = 87 + x := by simp only [UInt8.toNat_ofNat']; omega
    unfold hv
    rw [this, if_neg (by omega), if_pos (by omega)]
    omega
theorem enc_at : ∀ (l : List UInt8) (j : Nat) (hj : j < l.length), (Hex.enc l).getD (2 * j) 0 = Hex.dig (l[j].toNat / 16) ∧ (Hex.enc l).getD (2 * j + 1) 0 = Hex.dig (l[j].toNat % 16)
  | [], j, hj => absurd hj (by simp)
  | c :: l, 0, hj => ⟨rfl, rfl⟩
  | c :: l, j + 1, hj => by
    obtain ⟨h1, h2⟩ := enc_at l j (by simpa using hj)
    have e : Hex.enc (c :: l) = Hex.dig (c.toNat / 16) :: Hex.dig (c.toNat % 16) :: Hex.enc l := rfl
    have e1 : 2 * (j + 1) = 2 * j + 1 + 1 := by omega
    rw [e, e1]
    exact ⟨by rw [List.getD_cons_succ, List.getD_cons_succ, h1]; rfl, by rw [List.getD_cons_succ, List.getD_cons_succ, h2]; rfl⟩
theorem dh_enc (s h : ByteArray) (hh : h = ⟨(Hex.enc s.data.toList).toArray⟩) : DH h (.tuple #[.string s, .bool true]) := by
  have hd : h.data.toList = Hex.enc s.data.toList := by rw [hh]
  have hs : h.size = 2 * s.size := by rw [hh]; show (Hex.enc s.data.toList).toArray.size = _; rw [List.size_toArray, Hex.enc_length]; rfl
  have hl : s.data.toList.length = s.size := rfl
  have hat : ∀ j, (hj : j < s.data.toList.length) → hv (h.data.toList.getD (2 * j) 0) = ((s.data.toList[j].toNat / 16 : Nat) : Int) ∧ hv (h.data.toList.getD (2 * j + 1) 0) = ((s.data.toList[j].toNat % 16 : Nat) : Int) := by
    intro j hj
    obtain ⟨h1, h2⟩ := enc_at s.data.toList j hj
    rw [hd, h1, h2]
    have h256 := s.data.toList[j].toNat_lt
    exact ⟨hv_dig _ (by omega), hv_dig _ (by omega)⟩
  refine .inl ⟨fun j hj => ?_, ?_⟩
  · obtain ⟨h1, h2⟩ := hat j (by omega)
    unfold okAt
    rw [h1, h2]
    omega
  · have : bytesTo h (h.size / 2) = s.data.toList := by
      rw [hs]
      have e2 : 2 * s.size / 2 = s.data.toList.length := by rw [hl]; omega
      rw [e2]
      apply List.ext_getElem
      · rw [bytesTo_length]
      · intro j hj1 hj2
        obtain ⟨h1, h2⟩ := hat j hj2
        have e4 : (bytesTo h s.data.toList.length)[j] = byteAt h j := by simp [bytesTo]
        rw [e4]
        unfold byteAt
        rw [h1, h2]
        have h256 := s.data.toList[j].toNat_lt
        have e3 : (16 * ((s.data.toList[j].toNat / 16 : Nat) : Int) + ((s.data.toList[j].toNat % 16 : Nat) : Int)).toNat = s.data.toList[j].toNat := by omega
        rw [e3]
        exact UInt8.ofNat_toNat
    rw [this]

theorem ienc_long (s : ByteArray) (h : 20000 < s.size) (w : World) :
    Calls Tryd.prog 9 #[.string s] w fun e w' => e = .returned (.tuple #[.string ⟨#[]⟩, .bool false]) ∧ Below w.heap.size w w' := by
  have hd : decide ((20000 : Int) < (s.size : Int)) = true := decide_eq_true (by omega)
  go_enter Tryd.func9, Tryd.ntmps9
  go_wp2
  go_ret2
  exact ⟨rfl, Below.refl _ _⟩
theorem itoa_ten : Lib.itoa 10 = [49, 48] := by
  rw [show (10 : Int) = ((10 : Nat) : Int) from rfl, itoa_nat, dec_rec (by omega), Lib.decDigits_one (by omega)]
  rfl
theorem fint_ten (w : World) (htab : Lib.TabIs Tryd.prog w "internal/strconv.uint64pow10" .u64 Lib.pow10Tab) :
    Calls Tryd.prog 10 #[.int .i64 10] w fun e w' => e = .returned (.string ⟨#[49, 48]⟩) ∧ Below w.heap.size w w' := by
  have := fint_any 10 (by omega) (by omega) w htab
  rw [itoa_ten] at this
  exact this

end Go.Proofs.YtopkdkehkdhmgabDoor
