/- What the program's FormatTag returns, where strconv's table of powers of ten reads as its text lays it. -/
import Derived.Test.YtopkdkehkdhmgabDoorFormatTagSpec
import Derived.Test.YtopkdkehkdhmgabDoorFormatIntImpl
namespace Go.Proofs.YtopkdkehkdhmgabDoor
open Go.RowKit

theorem text_end2 {a b c : Int} {N K : Nat} {bb : UInt8} {z l : List UInt8} (h : ftext a b c = digs (tnum a b c).toNat ++ [45, UInt8.ofNat (48 + (tchk a b c).toNat)]) (hN : tnum a b c = N) (hK : tchk a b c = K) (hb : bb = UInt8.ofNat (48 + K)) (hz : z ++ l = digs N) :
    Value.string ((⟨z.toArray⟩ : ByteArray) ++ ⟨l.toArray⟩ ++ ⟨#[45]⟩ ++ ⟨[bb].toArray⟩) = .string ⟨(ftext a b c).toArray⟩ := by
  rw [h, hN, hK, Int.toNat_natCast, Int.toNat_natCast, ← hb, ← hz]
  congr 1
  apply ByteArray.ext
  simp [ByteArray.data_append]

set_option maxHeartbeats 1000000 in
theorem implFmt_any (a b c : Int) (w : World) (htab : Lib.TabIs Tryd.prog w "internal/strconv.uint64pow10" .u64 Lib.pow10Tab) :
    Calls Tryd.prog 19 #[.agg #[.int .i64 a, .int .i64 b, .int .i64 c]] w fun e w' => e = .returned (.string ⟨(ftext a b c).toArray⟩) ∧ Below w.heap.size w w' := by
  have hT := Lib.hid (Lib.tabBelow_of_tabIs htab)
  clear htab
  cases h : tokB a b c
  · have e : ftext a b c = [] := by unfold ftext; rw [h]; rfl
    rw [e]
    clear e hT
    have H := Lib.hid h
    clear h
    go_enter Tryd.func19, Tryd.ntmps19
    go_wp2_with (go_at_call 22; refine (implOk_any _ _ _ _).mono ?_; rw [H.out]; rintro e w1 ⟨rfl, hb⟩; obtain ⟨hc, hf⟩ := bcell hb)
    go_ret
    exact ⟨rfl, ((Below.refl _ _).alloc (Nat.le_refl _) _).trans (hb.mono (by simp))⟩
  · obtain ⟨n0, n1⟩ := tnum_bd h
    obtain ⟨c0, c1⟩ := tchk_bd h
    have HE : Hid (ftext a b c = digs (tnum a b c).toNat ++ [45, UInt8.ofNat (48 + (tchk a b c).toNat)]) := by unfold ftext; exact if_pos h
    have H := Lib.hid h
    clear h
    obtain ⟨N, hN⟩ : ∃ N : Nat, tnum a b c = N := ⟨(tnum a b c).toNat, by omega⟩
    obtain ⟨K, hK⟩ : ∃ K : Nat, tchk a b c = K := ⟨(tchk a b c).toNat, by omega⟩
    obtain ⟨zl, ze⟩ := zeros_numeral N (by omega)
    have hi : Lib.itoa (N : Int) = Lib.decDigits N := by unfold Lib.itoa; rw [if_neg (by omega), Int.toNat_natCast]
    have hk : Lib.itoa (K : Int) = [UInt8.ofNat (48 + K)] := by unfold Lib.itoa; rw [if_neg (by omega), Int.toNat_natCast, Lib.decDigits_one (by omega)]
    obtain ⟨l, hl⟩ : ∃ l, l = Lib.decDigits N := ⟨_, rfl⟩
    rw [← hl] at zl ze hi
    have HL := Lib.hid hl
    clear hl
    have ZE := Lib.hid ze
    clear ze
    have hN10 : N ≤ 9999999999 := by omega
    have hK10 : K ≤ 6 := by omega
    have HN := Lib.hid hN
    have HK := Lib.hid hK
    clear hN hK n0 n1 c0 c1
    have HI := Lib.hid hi
    have HKI := Lib.hid hk
    clear hi hk
    go_enter Tryd.func19, Tryd.ntmps19
    go_wp2_with fail
    refine (implOk_any _ _ _ _).mono ?_
    rw [H.out]
    rintro e w1 ⟨rfl, hb1⟩
    obtain ⟨hc1, hf1⟩ := bcell hb1
    have s1 : w.heap.size < w1.heap.size := by have := hb1.size; simp at this; omega
    have b1 : Below w.heap.size w w1 := ((Below.refl _ _).alloc (Nat.le_refl _) _).trans (hb1.mono (by simp))
    go_wp2_with fail
    refine (implNum_any _ _ _ _).mono ?_
    rw [HN.out]
    rintro e w2 ⟨rfl, hb2⟩
    obtain ⟨hc2, hf2⟩ := bcell hb2
    have s2 : w.heap.size < w2.heap.size := Nat.lt_of_lt_of_le s1 hb2.size
    have b2 : Below w.heap.size w w2 := b1.trans (hb2.mono (Nat.le_of_lt s1))
    go_wp2_with fail
    refine (fint_any N (by omega) (by omega) _ (hT.out _ b2)).mono ?_
    rw [HI.out]
    rintro e w3 ⟨rfl, hb3⟩
    obtain ⟨hc3, hf3⟩ := bcell hb3
    have s3 : w.heap.size < w3.heap.size := Nat.lt_of_lt_of_le s2 hb3.size
    have b3 : Below w.heap.size w w3 := b2.trans (hb3.mono (Nat.le_of_lt s2))
    go_wp2_with fail
    rw [show ((10 : Int) - (l.length : Int)) = ((10 - l.length : Nat) : Int) from by omega]
    obtain ⟨z, hz⟩ : ∃ z, z = Lib.repeatL [48] (10 - l.length) := ⟨_, rfl⟩
    have hzl : z.length ≤ 10 := by rw [hz, Lib.repeatL_length]; simp
    refine (Tryd.strings_Repeat ⟨#[48]⟩ (10 - l.length) _ (by omega) (by simp [ByteArray.size]; omega)).mono ?_
    rw [show Lib.repeatL ((⟨#[48]⟩ : ByteArray).data.toList) (10 - l.length) = z from hz.symm]
    have HZ := Lib.hid hz
    clear hz
    rintro e w4 ⟨rfl, hb4⟩
    obtain ⟨hc4, hf4⟩ := bcell hb4
    have s4 : w.heap.size < w4.heap.size := Nat.lt_of_lt_of_le s3 hb4.size
    have b4 : Below w.heap.size w w4 := b3.trans (hb4.mono (Nat.le_of_lt s3))
    go_wp2_with fail
    refine (implChk_any _ _ _ _).mono ?_
    rw [HK.out]
    rintro e w5 ⟨rfl, hb5⟩
    have s5 : w.heap.size < w5.heap.size := Nat.lt_of_lt_of_le s4 hb5.size
    have b5 : Below w.heap.size w w5 := b4.trans (hb5.mono (Nat.le_of_lt s4))
    go_wp2_with fail
    refine (fint_any K (by omega) (by omega) _ (hT.out _ b5)).mono ?_
    rw [HKI.out]
    obtain ⟨bb, hbb⟩ : ∃ bb : UInt8, bb = UInt8.ofNat (48 + K) := ⟨_, rfl⟩
    rw [← hbb]
    have HB := Lib.hid hbb
    clear hbb
    rintro e w6 ⟨rfl, hb6⟩
    have b6 : Below w.heap.size w w6 := b5.trans (hb6.mono (Nat.le_of_lt s5))
    go_wp2
    go_ret
    exact ⟨congrArg Ending.returned (text_end2 HE.out HN.out HK.out HB.out (by rw [HZ.out]; exact ZE.out)), b6⟩

end Go.Proofs.YtopkdkehkdhmgabDoor
