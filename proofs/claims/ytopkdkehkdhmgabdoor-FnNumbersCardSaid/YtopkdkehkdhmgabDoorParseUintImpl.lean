/- What the program's ParseUint returns. -/
import Derived.Test.YtopkdkehkdhmgabDoorFormatIntImpl
import Derived.Test.YtopkdkehkdhmgabDoorParsePlain
import Derived.Test.YtopkdkehkdhmgabDoorShelf
namespace Go.Proofs.YtopkdkehkdhmgabDoor
open Go.RowKit

def isNum (l : List UInt8) : Prop := ∃ N : Nat, N ≤ 1000000000 ∧ l = Lib.decDigits N

theorem within_any' (lo hi x : Int) (w : World) :
    Calls Tryd.prog 38 #[.int .i64 x, .int .i64 lo, .int .i64 hi] w fun e w' => e = .returned (.bool (decide (lo ≤ x) && decide (x ≤ hi))) ∧ w = w' := by
  by_cases h : lo ≤ x
  · by_cases k : x ≤ hi
    · have e : (decide (lo ≤ x) && decide (x ≤ hi)) = true := by simp [h, k]
      rw [e]
      clear e
      go_enter Tryd.func38, Tryd.ntmps38
      go_wp2
      go_ret
      exact ⟨rfl, rfl⟩
    · have e : (decide (lo ≤ x) && decide (x ≤ hi)) = false := by simp; omega
      rw [e]
      clear e
      go_enter Tryd.func38, Tryd.ntmps38
      go_wp2
      go_ret
      exact ⟨rfl, rfl⟩
  · have e : (decide (lo ≤ x) && decide (x ≤ hi)) = false := by simp; omega
    rw [e]
    clear e
    go_enter Tryd.func38, Tryd.ntmps38
    go_wp2
    go_ret
    exact ⟨rfl, rfl⟩

theorem bytes_toList (s : ByteArray) : s.toList = s.data.toList := by
  exact ByteArray.toList_eq s

theorem pu_ok (s : ByteArray) (N : Nat) (hN : N ≤ 1000000000) (hs : s.data.toList = Lib.decDigits N) (w : World) (htab : Lib.TabIs Tryd.prog w "internal/strconv.uint64pow10" .u64 Lib.pow10Tab) :
    Calls Tryd.prog 13 #[.string s] w fun e w' => e = .returned (.tuple #[.int .i64 N, .bool true]) ∧ Below w.heap.size w w' := by
  have hT := Lib.hid (Lib.tabBelow_of_tabIs htab)
  clear htab
  have ha := Lib.hid (by rw [hs]; exact atoi_dec N (by omega) : Lib.atoiAll s.data.toList = .ok (N : Int))
  have hi := Lib.hid (by rw [hs]; exact itoa_nat N : Lib.itoa (N : Int) = s.data.toList)
  have hsz : s.size ≤ 20 := by
    have : s.size = s.data.toList.length := by show s.data.size = _; simp
    have h2 := dec_len 9 N (by omega)
    rw [this, hs]; omega
  clear hs
  go_enter Tryd.func13, Tryd.ntmps13
  go_wp2_with fail
  refine (Tryd.strconv_Atoi_ok s (by omega) N ha.out _).mono ?_
  rintro e w1 ⟨rfl, h1⟩
  have b1 : Below w.heap.size w w1 := by
    rcases h1 with rfl | ⟨t, rfl⟩
    · exact Below.refl _ _
    · exact Lib.bytesWorld_below _ _ _
  clear h1
  go_wp2_with fail
  refine (within_any' 0 1000000000 N _).mono ?_
  rw [show (decide ((0 : Int) ≤ N) && decide ((N : Int) ≤ 1000000000)) = true by simp; omega]
  rintro e w2 ⟨rfl, rfl⟩
  go_wp2_with fail
  refine (fint_any N (by omega) (by omega) _ (hT.out _ b1)).mono ?_
  rw [hi.out]
  rintro e w2 ⟨rfl, hb2⟩
  go_wp2
  go_ret2
  exact ⟨rfl, b1.trans (hb2.mono b1.size)⟩

theorem pu_no (s : ByteArray) (hsz : s.size ≤ 1048576) (hs : ¬ isNum s.data.toList) (w : World) (htab : Lib.TabIs Tryd.prog w "internal/strconv.uint64pow10" .u64 Lib.pow10Tab)
    (tp : TypeId) (p : Value) (hrng : w.var? Tryd.prog "strconv.ErrRange" = some #[.iface tp p]) (tq : TypeId) (q : Value) (hsyn : w.var? Tryd.prog "strconv.ErrSyntax" = some #[.iface tq q]) :
    Calls Tryd.prog 13 #[.string s] w fun e w' => e = .returned (.tuple #[.int .i64 0, .bool false]) ∧ Below w.heap.size w w' := by
  have hT := Lib.hid (Lib.tabBelow_of_tabIs htab)
  clear htab
  have HR := Lib.hid hrng
  have HS := Lib.hid hsyn
  clear hrng hsyn
  cases h : Lib.atoiAll s.data.toList
  · rename_i v
    have H := Lib.hid h
    obtain ⟨v0, v1⟩ := Lib.atoiAll_bounds h
    clear h
    by_cases hv : 0 ≤ v ∧ v ≤ 1000000000
    · obtain ⟨N, rfl⟩ := Int.eq_ofNat_of_zero_le hv.1
      have hn : s.data.toList ≠ Lib.decDigits N := fun e => hs ⟨N, by omega, e⟩
      obtain ⟨l, hl⟩ : ∃ l, l = Lib.decDigits N := ⟨_, rfl⟩
      rw [← hl] at hn
      have hi : Lib.itoa (N : Int) = l := by rw [itoa_nat, hl]
      have HI := Lib.hid hi
      have hcmp : (l == s.toList) = false := by rw [bytes_toList]; exact beq_eq_false_iff_ne.2 (Ne.symm hn)
      clear hi hl hs hn
      obtain ⟨hv0, hv1⟩ := hv
      go_enter Tryd.func13, Tryd.ntmps13
      go_wp2_with fail
      refine (Tryd.strconv_Atoi_ok s (by omega) N H.out _).mono ?_
      rintro e w1 ⟨rfl, h1⟩
      have b1 : Below w.heap.size w w1 := by
        rcases h1 with rfl | ⟨t, rfl⟩
        · exact Below.refl _ _
        · exact Lib.bytesWorld_below _ _ _
      clear h1
      go_wp2_with fail
      refine (within_any' 0 1000000000 N _).mono ?_
      rw [show (decide ((0 : Int) ≤ N) && decide ((N : Int) ≤ 1000000000)) = true by simp; omega]
      rintro e w2 ⟨rfl, rfl⟩
      go_wp2_with fail
      refine (fint_any N (by omega) (by omega) _ (hT.out _ b1)).mono ?_
      rw [HI.out]
      rintro e w2 ⟨rfl, hb2⟩
      go_wp2
      go_ret2
      exact ⟨rfl, b1.trans (hb2.mono b1.size)⟩
    · have hw : (decide ((0 : Int) ≤ v) && decide (v ≤ 1000000000)) = false := by
        rw [Bool.and_eq_false_iff]
        rcases Int.lt_or_le v 0 with h | h
        · exact .inl (decide_eq_false (by omega))
        · exact .inr (decide_eq_false (by omega))
      clear hv hs
      have HW := Lib.hid hw
      clear hw
      go_enter Tryd.func13, Tryd.ntmps13
      go_wp2_with fail
      refine (Tryd.strconv_Atoi_ok s (by omega) v H.out _).mono ?_
      rintro e w1 ⟨rfl, h1⟩
      have b1 : Below w.heap.size w w1 := by
        rcases h1 with rfl | ⟨t, rfl⟩
        · exact Below.refl _ _
        · exact Lib.bytesWorld_below _ _ _
      clear h1
      go_wp2_with fail
      refine (within_any' 0 1000000000 v _).mono ?_
      rw [HW.out]
      rintro e w2 ⟨rfl, rfl⟩
      go_wp2
      go_ret2
      exact ⟨rfl, b1⟩
  · have H := Lib.hid h
    clear h hs
    go_enter Tryd.func13, Tryd.ntmps13
    go_wp2_with fail
    refine (Any.strconv_Atoi_syntax_var Tryd.laysC172 s (by omega) H.out tq q _ HS.out).mono ?_
    rintro e w1 ⟨M, rfl, -, -, b1⟩
    go_wp2
    go_ret2
    exact ⟨rfl, b1⟩
  · have H := Lib.hid h
    clear h hs
    go_enter Tryd.func13, Tryd.ntmps13
    go_wp2_with fail
    refine (Any.strconv_Atoi_range_var Tryd.laysC172 s (by omega) H.out tp p _ HR.out).mono ?_
    rintro e w1 ⟨M, rfl, -, -, b1⟩
    go_wp2
    go_ret2
    exact ⟨rfl, b1⟩

end Go.Proofs.YtopkdkehkdhmgabDoor
