/- Numbers that are drawn, and their numerals: which of them can be read again. -/
import Derived.Test.YtopkdkehkdhmgabDoorDrawNum
import Derived.Test.YtopkdkehkdhmgabDoorBig
import Derived.Test.YtopkdkehkdhmgabDoorCode
import Derived.Test.YtopkdkehkdhmgabDoorParseUintImpl
import Derived.Test.YtopkdkehkdhmgabDoorFormatIntImpl
import Derived.Lib.ItoaLen
namespace Go.Proofs.YtopkdkehkdhmgabDoor
open Go.RowKit
set_option linter.unusedVariables false

theorem itoa_len (n : Int) (h0 : -9223372036854775808 ≤ n) (h1 : n ≤ 9223372036854775807) : 1 ≤ (Lib.itoa n).length ∧ (Lib.itoa n).length ≤ 21 := by
  unfold Lib.itoa
  split
  · have := Lib.nDigits_le20 n.natAbs (by omega)
    rw [← Lib.decDigits_length] at this
    simp only [List.length_cons]
    omega
  · have := Lib.nDigits_le20 n.toNat (by omega)
    rw [← Lib.decDigits_length] at this
    have h2 := (dec_facts n.toNat).2.2
    have : 0 < (Lib.decDigits n.toNat).length := List.length_pos_iff.2 h2
    omega
theorem num_yes (n : Int) (h0 : 0 ≤ n) : Lib.itoa n = Lib.decDigits n.toNat := by
  have := itoa_nat n.toNat
  rwa [Int.toNat_of_nonneg h0] at this
theorem num_no (n : Int) (h : n < 0 ∨ 1000000000 < n) : ¬ isNum (Lib.itoa n) := by
  rintro ⟨N, hN, he⟩
  rcases h with h | h
  · have : Lib.itoa n = 45 :: Lib.decDigits n.natAbs := by unfold Lib.itoa; rw [if_pos h]
    rw [this] at he
    have hd := (dec_facts N).1 45 (by rw [← he]; simp)
    unfold isD at hd
    revert hd
    decide
  · rw [num_yes n (by omega)] at he
    have h1 := (dec_facts n.toNat).2.1
    have h2 := (dec_facts N).2.1
    rw [he, h2] at h1
    omega

set_option maxRecDepth 100000 in
set_option maxHeartbeats 2000000 in
theorem drawInt_any {B n : Nat} {p : Option Addr} {cap gc oc : Nat} {w : World} (hn : n ≤ 1048576) (hB : B ≤ w.heap.size) (hC : Code B n w p gc oc) :
    Calls Tryd.prog 12 #[.slice p n cap] w fun e w' => ∃ x : Int, (-9223372036854775808 ≤ x ∧ x ≤ 9223372036854775807) ∧ e = .returned (.int .i64 x) ∧ Below w.heap.size w w' := by
  have H := Lib.hid hC
  clear hC
  go_enter Tryd.func12, Tryd.ntmps12
  go_wp2_with fail
  refine (new_any (cap := cap) hn hB H.out).mono ?_
  rintro e w1 ⟨g, rfl, hc1, hb1, hg1⟩
  have HC1 := Lib.hid hc1
  have HB1 := Lib.hid hb1
  clear hb1 hc1
  go_wp2_with fail
  refine (once_at hn HC1.out 3 _ rfl (by omega) (by omega)).mono ?_
  rintro e w2 ⟨b1, rfl, hc2, hgr2⟩
  have HC2 := Lib.hid hc2
  have HG2 := Lib.hid hgr2
  clear hc2 hgr2
  have HBW := Lib.hid (fun (W : World) (hW : w1.grownBy W (some g)) => (below_grown hW HB1.out.size (fun k hk => by injection hk with hk; omega) : Below w.heap.size w1 W))
  cases b1
  · go_wp2_with fail
    refine (number_any hn HC2.out).mono ?_
    rintro e w3 ⟨x, hx, rfl, hc3, hgr3⟩
    have HG3 := Lib.hid (HG2.out.trans hgr3)
    have HX := Lib.hid hx
    clear hc3 hgr3 hx
    go_wp2_with fail
    go_ret
    exact ⟨_, HX.out, rfl, HB1.out.trans (HBW.out _ HG3.out)⟩
  · go_wp2_with fail
    refine (below_at hn HC2.out 1000000 _ rfl (by omega) (by omega)).mono ?_
    rintro e w3 ⟨x, hx, rfl, hc3, hgr3⟩
    have HC3 := Lib.hid hc3
    have HG3 := Lib.hid (HG2.out.trans hgr3)
    clear hc3 hgr3
    go_wp2_with fail
    refine (below_at hn HC3.out 2000000 _ rfl (by omega) (by omega)).mono ?_
    rintro e w4 ⟨y, hy, rfl, hc4, hgr4⟩
    have HG4 := Lib.hid (HG3.out.trans hgr4)
    clear hc4 hgr4
    go_wp2_with fail
    go_ret
    exact ⟨_, bounds_i64 (wrap64_wf _), rfl, HB1.out.trans (HBW.out _ HG4.out)⟩

end Go.Proofs.YtopkdkehkdhmgabDoor
