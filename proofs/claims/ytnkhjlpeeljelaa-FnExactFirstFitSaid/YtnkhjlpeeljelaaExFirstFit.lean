/- For all arguments the exact law of FirstFit returns true, and the arguments read as before. No condition. -/
import Derived.Test.YtnkhjlpeeljelaaRows
import Derived.Test.YtnkhjlpeeljelaaBlk
import Derived.Test.YtnkhjlpeeljelaaLimits
import Derived.Test.YtnkhjlpeeljelaaOpenQ
import Derived.Test.YtnkhjlpeeljelaaRowPiece
import Derived.Test.YtnkhjlpeeljelaaNestBox
import Derived.Test.YtnkhjlpeeljelaaBoxMarks
import Derived.Test.YtnkhjlpeeljelaaFirstFitI
import Derived.Test.YtnkhjlpeeljelaaFirstFitS
import Derived.OpenShut
import Derived.ChangeOld
import Derived.Lib.SmallJoins
namespace Go.Proofs.Ytnkhjlpeeljelaa.fnExactFirstFit
open Go.ChangeShapes Go.WideShapes Go.ChangeAt Go.RowKit Go.Deep
set_option linter.unusedVariables false

theorem cells2 {w : World} {k : Nat} {a b : Value} {t : TypeId} (h : w.heap[k]? = some (.cells #[a, b] t (0, 0))) : w.cell? ⟨k, 0, none⟩ = some a ∧ w.cell? ⟨k, 1, none⟩ = some b :=
  ⟨by simp [World.cell?, h], by simp [World.cell?, h]⟩

set_option maxRecDepth 100000 in
set_option maxHeartbeats 16000000 in
theorem walk (A0 B0 : Int) (v1 : Value) (n1 : Nat) (z1 : Nat → Int) (w : World) (wA : (Lit.int .i64 A0).wf = true) (wB : (Lit.int .i64 B0).wf = true) (m1 : n1 ≤ maxLen) (r1 : Rd w v1 n1 (n1 * 3) z1) (q1 : ∀ i, i < n1 * 3 → (Lit.int .i64 (z1 i)).wf = true) :
    Calls Try.prog 10 #[.agg #[.int .i64 A0, .int .i64 B0], v1] w fun e w' => e = .returned (.bool true) ∧ Below w.heap.size w w' := by
  obtain ⟨p1, c1, g1, o1, rfl, nc1, f1⟩ := r1
  have R1 := Lib.hid (show Rd w (.slice p1 n1 c1) n1 (n1 * 3) z1 from ⟨p1, c1, g1, o1, rfl, nc1, f1⟩)
  have Q1 := Lib.hid q1
  clear f1 nc1 q1 wA wB
  have hsz := Lib.hid (fun W (hW : Below w.heap.size w W) => szPieceS_v n1 (.slice p1 n1 c1) 1048576 (by omega) m1 (n1 * 3) z1 W (R1.out.later hW))
  by_cases hn1 : n1 ≤ 1048576
  rotate_left
  · simp only [if_neg hn1] at hsz
    go_enter Try.func10, Try.ntmps10
    go_wp2_with fail
    refine (hsz.out _ (by repeat (first | exact Below.refl _ _ | refine Below.alloc ?_ (by simp <;> omega) _ | refine Below.setCell ?_ (by simp <;> omega) _ | refine Below.drew ?_))).mono ?_
    rintro e wz ⟨rfl, rfl⟩
    go_wp2_with fail
    go_ret
    exact ⟨rfl, by repeat (first | exact Below.refl _ _ | refine Below.alloc ?_ (by simp <;> omega) _ | refine Below.setCell ?_ (by simp <;> omega) _ | refine Below.drew ?_)⟩
  simp only [if_pos hn1] at hsz
  obtain ⟨LL, hLL⟩ : ∃ LL : List Bx, LL = ffB A0 B0 n1 z1 := ⟨_, rfl⟩
  have hbd := ffB_in A0 B0 n1 z1
  rw [← hLL] at hbd
  obtain ⟨hlen, hrow⟩ := hbd
  have hrow9 := Lib.hid (fun i (hi : i < LL.length) => show (LL.getD i bxD).2.2.length ≤ 1048576 from by have := hrow i hi; omega)
  have hrw2 := Lib.hid (fun i (hi : i < LL.length) => show nL LL i ≤ 1048576 from by have := hrow i hi; show (LL.getD i bxD).2.2.length ≤ _; omega)
  have hk9 : kAt 1 LL LL.length ≤ 1099511627776 := by have := kAt_ub 1 LL 40 hrow LL.length (Nat.le_refl _); omega
  have hl20 : LL.length ≤ 1048576 := by omega
  have hS := Lib.hid (fun (W : World) (u : Option Addr) (c g o : Nat) (hu : FlatAt W 0 W.heap.size u g o (n1 * 3) (fun j => .int .i64 (z1 j))) => show Calls Try.prog 43 #[.agg #[.int .i64 A0, .int .i64 B0], .slice u n1 c] W fun e w' => ∃ v, e = .returned v ∧ BxH w' W.heap.size w'.heap.size v LL ∧ Below W.heap.size W w' from (sFirstFit_any A0 B0 n1 (by unfold maxLen; omega) z1 u c g o W hu).mono fun e w' h => by obtain ⟨v, he, ho, hb⟩ := h; rw [← hLL] at ho; exact ⟨v, he, ho.toH, hb⟩)
  have hI := Lib.hid (fun (W : World) (u : Option Addr) (c g o : Nat) (hu : FlatAt W 0 W.heap.size u g o (n1 * 3) (fun j => .int .i64 (z1 j))) => show Calls Try.prog 44 #[.agg #[.int .i64 A0, .int .i64 B0], .slice u n1 c] W fun e w' => ∃ v, e = .returned v ∧ BxH w' W.heap.size w'.heap.size v LL ∧ Below W.heap.size W w' from (iFirstFit_any A0 B0 n1 (by unfold maxLen; omega) z1 u c g o W hu Q1.out).mono fun e w' h => by obtain ⟨v, he, ho, hb⟩ := h; rw [← hLL] at ho; exact ⟨v, he, ho.toH, hb⟩)
  clear hLL hrow
  have htp := Lib.hid (fun W (hW : Below w.heap.size w W) => (toPieceS_v n1 hn1 z1 (.slice p1 n1 c1) W (R1.out.later hW)).mono (fun e w' h => show ∃ pq cq gq oq, e = .returned (.slice pq n1 cq) ∧ (FlatAt w' W.heap.size w'.heap.size pq gq oq (n1 * 3) (fun j => .int .i64 (z1 j)) ∧ Own w' W.heap.size w'.heap.size (.slice pq n1 cq) n1 (n1 * 3) z1) ∧ Below W.heap.size W w' from by obtain ⟨v', he, ho, hb⟩ := h; obtain ⟨pq, cq, gq, oq, rfl, h1, h2, h3⟩ := ho; exact ⟨pq, cq, gq, oq, he, ⟨h2, ⟨pq, cq, gq, oq, rfl, h1, h2, h3⟩⟩, hb⟩))
  have hep := Lib.hid (fun W va vb ha hb => eqPieceS_v n1 hn1 z1 va vb W ha hb)
  have heb := Lib.hid (fun (W : World) (va vb : Value) (a b a' b' : Nat) (ha : BxH W a b va LL) (hb : BxH W a' b' vb LL) => show Calls Try.prog 42 #[va, vb] W fun e w' => e = .returned (.bool true) ∧ Below W.heap.size W w' from by
    obtain ⟨pa, ca, rfl, na⟩ := ha.nrd
    obtain ⟨pb, cb, rfl, nb⟩ := hb.nrd
    exact eqBoxS_v LL.length hl20 pa pb ca cb (aL LL) (nL LL) hrw2.out (xL LL) W na nb)
  have hmp := Lib.hid (fun W lo hi v h => markPieceS_v 1 n1 hn1 (by omega) z1 lo hi v W h)
  have hmb := Lib.hid (fun W lo hi v h => markBoxS_v 1 LL hl20 hk9 hrow9.out lo hi v W h)
  have hhb := Lib.hid (fun W lo hi v h => heldBoxS_v 1 LL hl20 hk9 hrow9.out lo hi v W h)
  obtain ⟨K1, hK1⟩ : ∃ K, K = 1 + n1 * 3 := ⟨_, rfl⟩
  have bK1 : K1 ≤ 100000000 := by omega
  rw [← hK1] at hmp
  clear hK1
  obtain ⟨K2, hK2⟩ : ∃ K, K = kAt 1 LL LL.length := ⟨_, rfl⟩
  have bK2 : K2 ≤ 1099511627776 := by omega
  rw [← hK2] at hmb hhb
  clear hK2 hk9
  obtain ⟨ML, hML⟩ : ∃ M, M = mkP 1 LL LL.length := ⟨_, rfl⟩
  rw [← hML] at hmb hhb
  clear hML hlen hl20
  go_enter Try.func10, Try.ntmps10
  have BW0 := Lib.hid (Below.refl w.heap.size w)
  go_wp2_with fail
  refine (hsz.out _ (by repeat (first | exact Below.refl _ _ | refine Below.alloc ?_ (by simp <;> omega) _ | refine Below.setCell ?_ (by simp <;> omega) _ | refine Below.drew ?_))).mono ?_
  rintro e wz ⟨rfl, rfl⟩
  clear hsz
  go_wp2_with fail
  refine (toLimits_any A0 B0 _).mono ?_
  rintro e w1 ⟨rfl, hb⟩
  have E1 : Below w.heap.size w w1 := below_via hb (by repeat (first | exact Below.refl _ _ | refine Below.alloc ?_ (by simp <;> omega) _ | refine Below.setCell ?_ (by simp <;> omega) _ | refine Below.drew ?_)) (by first | (simp; done) | omega | (simp; omega))
  have sz1 : w.heap.size ≤ w1.heap.size := E1.size
  have BW1 := Lib.hid (BW0.out.trans (E1.mono BW0.out.size))
  have XA_1 : Hid (w1.heap[w.heap.size]? = some (.cells #[.int .i64 A0, .int .i64 B0] 23 (0, 0))) := (hb.block _ (by first | (simp; done) | omega | (simp; omega))).trans (by first | exact heap_new _ _ _ (by first | rfl | simp) | exact (heap_old _ _ _ (by simp)).trans (heap_new _ _ _ (by first | rfl | simp)) | exact (heap_old _ _ _ (by simp)).trans ((heap_old _ _ _ (by simp)).trans (heap_new _ _ _ (by first | rfl | simp))))
  clear hb E1 BW0 
  have hlt9 := blk_lt XA_1.out
  go_wp2_with fail
  refine (htp.out _ BW1.out).mono ?_
  rintro e w2 ⟨pa, ca, ga, oa, rfl, ⟨Fa, Oa⟩, hb⟩
  have E2 : Below w1.heap.size w1 w2 := below_via hb (by repeat (first | exact Below.refl _ _ | refine Below.alloc ?_ (by simp <;> omega) _ | refine Below.setCell ?_ (by simp <;> omega) _ | refine Below.drew ?_)) (by first | (simp; done) | omega | (simp; omega))
  have sz2 : w1.heap.size ≤ w2.heap.size := E2.size
  have BW2 := Lib.hid (BW1.out.trans (E2.mono BW1.out.size))
  have XA_2 := Lib.hid (blk_later XA_1.out E2)
  have Fa_2 := Lib.hid Fa
  have Oa_2 := Lib.hid Oa
  clear hb E2 BW1 XA_1 Fa Oa
  go_wp2_with fail
  refine (hS.out _ pa ca ga oa (Fa_2.out.wide (Nat.zero_le _) (by omega))).mono ?_
  rintro e w3 ⟨vs, rfl, OS, hb⟩
  have E3 : Below w2.heap.size w2 w3 := below_via hb (by repeat (first | exact Below.refl _ _ | refine Below.alloc ?_ (by simp <;> omega) _ | refine Below.setCell ?_ (by simp <;> omega) _ | refine Below.drew ?_)) (by first | (simp; done) | omega | (simp; omega))
  have sz3 : w2.heap.size ≤ w3.heap.size := E3.size
  have BW3 := Lib.hid (BW2.out.trans (E3.mono BW2.out.size))
  have XA_3 := Lib.hid (blk_later XA_2.out E3)
  have OS_3 := Lib.hid OS
  clear hb E3 BW2 XA_2 Fa_2 Oa_2 OS
  go_wp2_with fail
  refine (htp.out _ BW3.out).mono ?_
  rintro e w4 ⟨px, cx, gx, ox, rfl, ⟨Fx, Ox⟩, hb⟩
  have E4 : Below w3.heap.size w3 w4 := below_via hb (by repeat (first | exact Below.refl _ _ | refine Below.alloc ?_ (by simp <;> omega) _ | refine Below.setCell ?_ (by simp <;> omega) _ | refine Below.drew ?_)) (by first | (simp; done) | omega | (simp; omega))
  have sz4 : w3.heap.size ≤ w4.heap.size := E4.size
  have BW4 := Lib.hid (BW3.out.trans (E4.mono BW3.out.size))
  have XA_4 := Lib.hid (blk_later XA_3.out E4)
  have OS_4 := Lib.hid (OS_3.out.below E4 (by first | exact Nat.le_refl _ | omega))
  have Fx_4 := Lib.hid Fx
  have Ox_4 := Lib.hid Ox
  clear hb E4 BW3 XA_3 OS_3 Fx Ox
  obtain ⟨xa0, xa1⟩ := cells2 XA_4.out
  go_wp2_with fail
  refine (toLimits_any A0 B0 _).mono ?_
  rintro e w5 ⟨rfl, hb⟩
  have E5 : Below w4.heap.size w4 w5 := below_via hb (by repeat (first | exact Below.refl _ _ | refine Below.alloc ?_ (by simp <;> omega) _ | refine Below.setCell ?_ (by simp <;> omega) _ | refine Below.drew ?_)) (by first | (simp; done) | omega | (simp; omega))
  have sz5 : w4.heap.size ≤ w5.heap.size := E5.size
  have BW5 := Lib.hid (BW4.out.trans (E5.mono BW4.out.size))
  clear xa0 xa1
  have XA_5 := Lib.hid (blk_later XA_4.out E5)
  have OS_5 := Lib.hid (OS_4.out.below E5 (by first | exact Nat.le_refl _ | omega))
  have Fx_5 := Lib.hid (Fx_4.out.below E5 (by first | exact Nat.le_refl _ | omega))
  have Ox_5 := Lib.hid (Ox_4.out.below E5 (by first | exact Nat.le_refl _ | omega))
  clear hb E5 BW4 XA_4 OS_4 Fx_4 Ox_4
  go_wp2_with fail
  refine (hI.out _ px cx gx ox (Fx_5.out.wide (Nat.zero_le _) (by omega))).mono ?_
  rintro e w6 ⟨vg, rfl, OG, hb⟩
  have E6 : Below w5.heap.size w5 w6 := below_via hb (by repeat (first | exact Below.refl _ _ | refine Below.alloc ?_ (by simp <;> omega) _ | refine Below.setCell ?_ (by simp <;> omega) _ | refine Below.drew ?_)) (by first | (simp; done) | omega | (simp; omega))
  have sz6 : w5.heap.size ≤ w6.heap.size := E6.size
  have BW6 := Lib.hid (BW5.out.trans (E6.mono BW5.out.size))
  have XA_6 := Lib.hid (blk_later XA_5.out E6)
  have OS_6 := Lib.hid (OS_5.out.below E6 (by first | exact Nat.le_refl _ | omega))
  have Ox_6 := Lib.hid (Ox_5.out.below E6 (by first | exact Nat.le_refl _ | omega))
  have OG_6 := Lib.hid OG
  clear hb E6 BW5 XA_5 OS_5 Fx_5 Ox_5 OG
  go_wp2_with fail
  refine (heb.out _ vg vs _ _ _ _ OG_6.out OS_6.out).mono ?_
  rintro e w7 ⟨rfl, hb⟩
  have E7 : Below w6.heap.size w6 w7 := below_via hb (by repeat (first | exact Below.refl _ _ | refine Below.alloc ?_ (by simp <;> omega) _ | refine Below.setCell ?_ (by simp <;> omega) _ | refine Below.drew ?_)) (by first | (simp; done) | omega | (simp; omega))
  have sz7 : w6.heap.size ≤ w7.heap.size := E7.size
  have BW7 := Lib.hid (BW6.out.trans (E7.mono BW6.out.size))
  have XA_7 := Lib.hid (blk_later XA_6.out E7)
  have OS_7 := Lib.hid (OS_6.out.below E7 (by first | exact Nat.le_refl _ | omega))
  have Ox_7 := Lib.hid (Ox_6.out.below E7 (by first | exact Nat.le_refl _ | omega))
  have OG_7 := Lib.hid (OG_6.out.below E7 (by first | exact Nat.le_refl _ | omega))
  clear hb E7 BW6 XA_6 OS_6 Ox_6 OG_6
  go_wp2_with fail
  refine (htp.out _ BW7.out).mono ?_
  rintro e w8 ⟨pe, ce, ge, oe, rfl, ⟨Fe, Oe⟩, hb⟩
  have E8 : Below w7.heap.size w7 w8 := below_via hb (by repeat (first | exact Below.refl _ _ | refine Below.alloc ?_ (by simp <;> omega) _ | refine Below.setCell ?_ (by simp <;> omega) _ | refine Below.drew ?_)) (by first | (simp; done) | omega | (simp; omega))
  have sz8 : w7.heap.size ≤ w8.heap.size := E8.size
  have BW8 := Lib.hid (BW7.out.trans (E8.mono BW7.out.size))
  have XA_8 := Lib.hid (blk_later XA_7.out E8)
  have OS_8 := Lib.hid (OS_7.out.below E8 (by first | exact Nat.le_refl _ | omega))
  have Ox_8 := Lib.hid (Ox_7.out.below E8 (by first | exact Nat.le_refl _ | omega))
  have OG_8 := Lib.hid (OG_7.out.below E8 (by first | exact Nat.le_refl _ | omega))
  have Fe_8 := Lib.hid Fe
  have Oe_8 := Lib.hid Oe
  clear hb E8 BW7 XA_7 OS_7 Ox_7 OG_7 Fe Oe
  go_wp2_with fail
  refine (hep.out _ _ _ (Ox_8.out.rd (by omega)) (Oe_8.out.rd (by omega))).mono ?_
  rintro e w9 ⟨rfl, hb⟩
  have E9 : Below w8.heap.size w8 w9 := below_via hb (by repeat (first | exact Below.refl _ _ | refine Below.alloc ?_ (by simp <;> omega) _ | refine Below.setCell ?_ (by simp <;> omega) _ | refine Below.drew ?_)) (by first | (simp; done) | omega | (simp; omega))
  have sz9 : w8.heap.size ≤ w9.heap.size := E9.size
  have BW9 := Lib.hid (BW8.out.trans (E9.mono BW8.out.size))
  have XA_9 := Lib.hid (blk_later XA_8.out E9)
  have OS_9 := Lib.hid (OS_8.out.below E9 (by first | exact Nat.le_refl _ | omega))
  have Ox_9 := Lib.hid (Ox_8.out.below E9 (by first | exact Nat.le_refl _ | omega))
  have OG_9 := Lib.hid (OG_8.out.below E9 (by first | exact Nat.le_refl _ | omega))
  clear hb E9 BW8 XA_8 OS_8 Ox_8 OG_8 Fe_8 Oe_8
  go_wp2_with fail
  refine (hmp.out _ _ _ _ Ox_9.out).mono ?_
  rintro e w10 ⟨rfl, hr, hb⟩
  have T10 := (Touch.of_below (by repeat (first | exact Below.refl _ _ | refine Below.alloc ?_ (by simp <;> omega) _ | refine Below.setCell ?_ (by simp <;> omega) _ | refine Below.drew ?_))).trans hb
  have sz10 : w9.heap.size ≤ w10.heap.size := T10.size
  have BW10 := Lib.hid (BW9.out.trans (T10.below (by have := BW9.out.size; omega) (by have := BW9.out.size; omega)))
  have XA_10 := Lib.hid ((T10.block _ (blk_lt XA_9.out) (by omega)).trans XA_9.out)
  have OS_10 := Lib.hid (OS_9.out.touch T10 (by omega) (by omega))
  have Ox_10 := Lib.hid hr
  have OG_10 := Lib.hid (OG_9.out.touch T10 (by omega) (by omega))
  clear hb hr T10 BW9 XA_9 OS_9 Ox_9 OG_9
  clear Ox_10
  go_wp2_with fail
  refine (heb.out _ vg vs _ _ _ _ OG_10.out OS_10.out).mono ?_
  rintro e w11 ⟨rfl, hb⟩
  have E11 : Below w10.heap.size w10 w11 := below_via hb (by repeat (first | exact Below.refl _ _ | refine Below.alloc ?_ (by simp <;> omega) _ | refine Below.setCell ?_ (by simp <;> omega) _ | refine Below.drew ?_)) (by first | (simp; done) | omega | (simp; omega))
  have sz11 : w10.heap.size ≤ w11.heap.size := E11.size
  have BW11 := Lib.hid (BW10.out.trans (E11.mono BW10.out.size))
  have XA_11 := Lib.hid (blk_later XA_10.out E11)
  have OS_11 := Lib.hid (OS_10.out.below E11 (by first | exact Nat.le_refl _ | omega))
  have OG_11 := Lib.hid (OG_10.out.below E11 (by first | exact Nat.le_refl _ | omega))
  clear hb E11 BW10 XA_10 OS_10 OG_10
  go_wp2_with fail
  refine (hmb.out _ _ _ vg OG_11.out).mono ?_
  rintro e w12 ⟨rfl, hr, hb⟩
  have T12 := (Touch.of_below (by repeat (first | exact Below.refl _ _ | refine Below.alloc ?_ (by simp <;> omega) _ | refine Below.setCell ?_ (by simp <;> omega) _ | refine Below.drew ?_))).trans hb
  have sz12 : w11.heap.size ≤ w12.heap.size := T12.size
  have BW12 := Lib.hid (BW11.out.trans (T12.below (by have := BW11.out.size; omega) (by have := BW11.out.size; omega)))
  have XA_12 := Lib.hid ((T12.block _ (blk_lt XA_11.out) (by omega)).trans XA_11.out)
  have OS_12 := Lib.hid (OS_11.out.touch T12 (by omega) (by omega))
  have OG_12 := Lib.hid hr
  clear hb hr T12 BW11 XA_11 OS_11 OG_11
  go_wp2_with fail
  refine (hhb.out _ _ _ vg OG_12.out).mono ?_
  rintro e w13 ⟨rfl, hb⟩
  have E13 : Below w12.heap.size w12 w13 := below_via hb (by repeat (first | exact Below.refl _ _ | refine Below.alloc ?_ (by simp <;> omega) _ | refine Below.setCell ?_ (by simp <;> omega) _ | refine Below.drew ?_)) (by first | (simp; done) | omega | (simp; omega))
  have sz13 : w12.heap.size ≤ w13.heap.size := E13.size
  have BW13 := Lib.hid (BW12.out.trans (E13.mono BW12.out.size))
  have XA_13 := Lib.hid (blk_later XA_12.out E13)
  have OS_13 := Lib.hid (OS_12.out.below E13 (by first | exact Nat.le_refl _ | omega))
  have OG_13 := Lib.hid (OG_12.out.below E13 (by first | exact Nat.le_refl _ | omega))
  clear hb E13 BW12 XA_12 OS_12 OG_12
  obtain ⟨xa0, xa1⟩ := cells2 XA_13.out
  go_wp2_with fail
  refine (toLimits_any A0 B0 _).mono ?_
  rintro e w14 ⟨rfl, hb⟩
  have E14 : Below w13.heap.size w13 w14 := below_via hb (by repeat (first | exact Below.refl _ _ | refine Below.alloc ?_ (by simp <;> omega) _ | refine Below.setCell ?_ (by simp <;> omega) _ | refine Below.drew ?_)) (by first | (simp; done) | omega | (simp; omega))
  have sz14 : w13.heap.size ≤ w14.heap.size := E14.size
  have BW14 := Lib.hid (BW13.out.trans (E14.mono BW13.out.size))
  clear xa0 xa1
  have XA_14 := Lib.hid (blk_later XA_13.out E14)
  have OS_14 := Lib.hid (OS_13.out.below E14 (by first | exact Nat.le_refl _ | omega))
  have OG_14 := Lib.hid (OG_13.out.below E14 (by first | exact Nat.le_refl _ | omega))
  clear hb E14 BW13 XA_13 OS_13 OG_13
  go_wp2_with fail
  refine (htp.out _ BW14.out).mono ?_
  rintro e w15 ⟨ph, ch, gh, oh, rfl, ⟨Fh, Oh⟩, hb⟩
  have E15 : Below w14.heap.size w14 w15 := below_via hb (by repeat (first | exact Below.refl _ _ | refine Below.alloc ?_ (by simp <;> omega) _ | refine Below.setCell ?_ (by simp <;> omega) _ | refine Below.drew ?_)) (by first | (simp; done) | omega | (simp; omega))
  have sz15 : w14.heap.size ≤ w15.heap.size := E15.size
  have BW15 := Lib.hid (BW14.out.trans (E15.mono BW14.out.size))
  have XA_15 := Lib.hid (blk_later XA_14.out E15)
  have OS_15 := Lib.hid (OS_14.out.below E15 (by first | exact Nat.le_refl _ | omega))
  have OG_15 := Lib.hid (OG_14.out.below E15 (by first | exact Nat.le_refl _ | omega))
  have Fh_15 := Lib.hid Fh
  have Oh_15 := Lib.hid Oh
  clear hb E15 BW14 XA_14 OS_14 OG_14 Fh Oh
  go_wp2_with fail
  refine (hI.out _ ph ch gh oh (Fh_15.out.wide (Nat.zero_le _) (by omega))).mono ?_
  rintro e w16 ⟨vk, rfl, OK, hb⟩
  have E16 : Below w15.heap.size w15 w16 := below_via hb (by repeat (first | exact Below.refl _ _ | refine Below.alloc ?_ (by simp <;> omega) _ | refine Below.setCell ?_ (by simp <;> omega) _ | refine Below.drew ?_)) (by first | (simp; done) | omega | (simp; omega))
  have sz16 : w15.heap.size ≤ w16.heap.size := E16.size
  have BW16 := Lib.hid (BW15.out.trans (E16.mono BW15.out.size))
  have OS_16 := Lib.hid (OS_15.out.below E16 (by first | exact Nat.le_refl _ | omega))
  have OG_16 := Lib.hid (OG_15.out.below E16 (by first | exact Nat.le_refl _ | omega))
  have OK_16 := Lib.hid OK
  clear hb E16 BW15 XA_15 OS_15 OG_15 Fh_15 Oh_15 OK
  go_wp2_with fail
  refine (heb.out _ vk vs _ _ _ _ OK_16.out OS_16.out).mono ?_
  rintro e w17 ⟨rfl, hb⟩
  have E17 : Below w16.heap.size w16 w17 := below_via hb (by repeat (first | exact Below.refl _ _ | refine Below.alloc ?_ (by simp <;> omega) _ | refine Below.setCell ?_ (by simp <;> omega) _ | refine Below.drew ?_)) (by first | (simp; done) | omega | (simp; omega))
  have sz17 : w16.heap.size ≤ w17.heap.size := E17.size
  have BW17 := Lib.hid (BW16.out.trans (E17.mono BW16.out.size))
  have OG_17 := Lib.hid (OG_16.out.below E17 (by first | exact Nat.le_refl _ | omega))
  clear hb E17 BW16 OS_16 OG_16 OK_16
  go_wp2_with fail
  refine (hhb.out _ _ _ vg OG_17.out).mono ?_
  rintro e w18 ⟨rfl, hb⟩
  have E18 : Below w17.heap.size w17 w18 := below_via hb (by repeat (first | exact Below.refl _ _ | refine Below.alloc ?_ (by simp <;> omega) _ | refine Below.setCell ?_ (by simp <;> omega) _ | refine Below.drew ?_)) (by first | (simp; done) | omega | (simp; omega))
  have sz18 : w17.heap.size ≤ w18.heap.size := E18.size
  have BW18 := Lib.hid (BW17.out.trans (E18.mono BW17.out.size))
  clear hb E18 BW17 OG_17
  go_wp2_with fail
  go_ret
  exact ⟨rfl, BW18.out⟩

/-! The row's step. -/
theorem own : ownKnob Try.prog.godebug = none := by kernel_rfl
theorem laidOut : laidOutB Try.prog = true := by kernel_rfl
set_option maxRecDepth 100000 in
theorem lifted (os : Os) (started : os.Started) (H : Type) (enc : TypeId × Value → H) :
    ReturnsInHanded {} Try.checked os 10 .any (Rows.fnExactFirstFitSpec.pre6 enc Try.prog Try.f10 Rows.fnExactFirstFitRow.domain false) (Rows.fnExactFirstFitSpec.post enc Try.prog Try.f10 false true false false) := by
  refine returnsInHanded_of_change (C := Try.checked) own started (by kernel_rfl) Try.func10
    (ChangeSpec.witness6 (enc := enc) (C := Try.checked) false ⟨#[], #[.agg #[.int .i64 0, .int .i64 0], .slice none 0 0], []⟩ 8 (by kernel_rfl) (by kernel_rfl) (by kernel_rfl) (by kernel_rfl)) ?_
  intro W base args ds gs before hval0 hW hcnd _
  have hval : ∀ (j : Nat) t v, Try.f10.params[j]? = some t → args[j]? = some v → Value.okWide Try.prog W .any base t v := hval0
  have hW' := hW
  obtain ⟨p, q, hA0, hV, rfl, hfz, hnd⟩ := hW
  have hA : DataW.TrodAll enc Try.prog W 0 (fun _ => true) true Try.f10.params.toList args.toList ds p := hA0
  rw [Try.params10] at hA hval
  obtain ⟨v0, vs0, d0, ds0, p0, q0, hargs, rfl, rfl, h0, r0⟩ := trodAll_cons hA
  obtain ⟨v1, vs1, d1, ds1, p1, q1, rfl, rfl, rfl, h1, r1⟩ := trodAll_cons r0
  obtain ⟨rfl, rfl, rfl⟩ := trodAll_nil r1
  obtain rfl : args = #[v0, v1] := by cases args; simp_all
  obtain ⟨rfl, rfl⟩ := trodVars_none hV
  have k0 := h0
  have lt0 : ∀ x ∈ p0, x.block < W.heap.size := by obtain ⟨m, hm⟩ := k0; exact DataW.trod_lt m _ _ _ hm
  obtain ⟨cA0, cB0, yA0, yB0, m0, rfl, -, -, hA0, hB0⟩ := Joins.open_agg2 Try.underlying23 (by kernel_rfl) (show Try.prog.cellsOf 23 = 2 by kernel_rfl) (hval 0 23 v0 rfl rfl) h0
  obtain ⟨A0, eA0, -, wA0⟩ := DataW.trod_int Try.underlying3 hA0
  obtain ⟨B0, eB0, -, wB0⟩ := DataW.trod_int Try.underlying3 hB0
  simp only [List.cons.injEq, and_true] at eA0 eB0
  subst eA0 eB0
  have k1 := h1
  have lt1 : ∀ x ∈ p1, x.block < W.heap.size := by obtain ⟨m, hm⟩ := k1; exact DataW.trod_lt m _ _ _ hm
  obtain ⟨sp1, n1, c1, rfl⟩ := okWide_slice Try.underlying28 (hval 1 28 v1 rfl rfl)
  obtain ⟨z1, cm1, fl1, wq1⟩ := rows_openQ Try.underlying28 Try.underlying64 (by kernel_rfl) (show Try.prog.cellsOf 64 = 3 by kernel_rfl) rfl (by decide) Try.underlying3 (by kernel_rfl) h1
  clear hA0 hval0
  refine (walk A0 B0 _ n1 z1 W wA0 wB0 cm1 fl1 wq1).mono fun e W' ⟨he, bel⟩ => ?_
  subst he
  exact ⟨_, rfl, _, _, _, [], _, [], hW', trodAll_mk1 (shut_bool Try.underlying4 _), (trodAll_cons_mk (Below.trod laidOut (by kernel_rfl) (of_decide_eq_true (by kernel_rfl)) k0 bel lt0) (trodAll_cons_mk (Below.trod laidOut (by kernel_rfl) (of_decide_eq_true (by kernel_rfl)) k1 bel lt1) trodAll_mk0)), rfl, bel.frame _, fun h => by cases h⟩

theorem over : Rows.fnExactFirstFitRow.holds Try.pinned (OpenSpec.ofChange Rows.fnExactFirstFitSpec) :=
  OpenClaim.holds_of_wide 10 Try.f10 rfl rfl rfl rfl rfl rfl rfl ⟨rfl, rfl, rfl, rfl, rfl⟩ rfl rfl rfl rfl rfl (by kernel_rfl) Try.func10 (by kernel_rfl)
    (of_decide_eq_true (by kernel_rfl)) (by unfold Func.isWrapper; first | (rw [if_pos (by decide +kernel)]; kernel_rfl) | (rw [if_neg (by decide +kernel)]; exact ⟨rfl, rfl⟩))
    (fun os started H enc _ => lifted os started H enc)

/-- The statement. -/
theorem proved : Rows.FnExactFirstFitSaid := over
#print axioms proved
end Go.Proofs.Ytnkhjlpeeljelaa.fnExactFirstFit
