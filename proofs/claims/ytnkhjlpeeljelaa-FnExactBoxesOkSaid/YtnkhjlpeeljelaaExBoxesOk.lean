/- For all arguments the exact law of BoxesOk returns true, and the arguments read as before. No condition. -/
import Derived.Test.YtnkhjlpeeljelaaRows
import Derived.Test.YtnkhjlpeeljelaaBlk
import Derived.Test.YtnkhjlpeeljelaaLimits
import Derived.Test.YtnkhjlpeeljelaaOpenQ
import Derived.Test.YtnkhjlpeeljelaaRowPiece
import Derived.Test.YtnkhjlpeeljelaaNestBox
import Derived.Test.YtnkhjlpeeljelaaBoxesOkI
import Derived.Test.YtnkhjlpeeljelaaBoxesOkS
import Derived.OpenShut
import Derived.ChangeOld
import Derived.Lib.SmallJoins
namespace Go.Proofs.Ytnkhjlpeeljelaa.fnExactBoxesOk
open Go.ChangeShapes Go.WideShapes Go.ChangeAt Go.RowKit Go.Deep
set_option linter.unusedVariables false

theorem cells2 {w : World} {k : Nat} {a b : Value} {t : TypeId} (h : w.heap[k]? = some (.cells #[a, b] t (0, 0))) : w.cell? ⟨k, 0, none⟩ = some a ∧ w.cell? ⟨k, 1, none⟩ = some b :=
  ⟨by simp [World.cell?, h], by simp [World.cell?, h]⟩

set_option maxRecDepth 100000 in
set_option maxHeartbeats 8000000 in
theorem walk (A0 B0 : Int) (v1 : Value) (n1 : Nat) (z1 : Nat → Int) (p2 : Option Addr) (n2 c2 : Nat) (a2 : Nat → Int) (nn2 : Nat → Nat) (xx2 : Nat → Nat → Int) (w : World) (wA : (Lit.int .i64 A0).wf = true) (wB : (Lit.int .i64 B0).wf = true) (m1 : n1 ≤ maxLen) (r1 : Rd w v1 n1 (n1 * 3) z1) (q1 : ∀ i, i < n1 * 3 → (Lit.int .i64 (z1 i)).wf = true) (m2 : n2 ≤ maxLen) (h2 : ∀ i, i < n2 → nn2 i ≤ maxLen) (r2 : NRd w (.slice p2 n2 c2) n2 2 a2 nn2 xx2) (wa2 : ∀ i, i < n2 → ∀ r, r < 2 → (Lit.int .i64 (a2 (i * 3 + r))).wf = true) (wx2 : ∀ i, i < n2 → ∀ j, j < nn2 i → (Lit.int .i64 (xx2 i j)).wf = true) :
    Calls Try.prog 9 #[.agg #[.int .i64 A0, .int .i64 B0], v1, (.slice p2 n2 c2)] w fun e w' => e = .returned (.bool true) ∧ Below w.heap.size w w' := by
  obtain ⟨p1, c1, g1, o1, rfl, nc1, f1⟩ := r1
  have R1 := Lib.hid (show Rd w (.slice p1 n1 c1) n1 (n1 * 3) z1 from ⟨p1, c1, g1, o1, rfl, nc1, f1⟩)
  have Q1 := Lib.hid q1
  have R2 := Lib.hid r2
  have H2 := Lib.hid h2
  have X2 := Lib.hid wx2
  clear f1 nc1 q1 r2 h2 wx2 wa2 wA wB
  have hsz := Lib.hid (fun W (hW : Below w.heap.size w W) => szPieceS_v n1 (.slice p1 n1 c1) 1048576 (by omega) m1 (n1 * 3) z1 W (R1.out.later hW))
  by_cases hn1 : n1 ≤ 1048576
  rotate_left
  · simp only [if_neg hn1] at hsz
    go_enter Try.func9, Try.ntmps9
    go_wp2_with fail
    refine (hsz.out _ (by repeat (first | exact Below.refl _ _ | refine Below.alloc ?_ (by simp <;> omega) _ | refine Below.setCell ?_ (by simp <;> omega) _ | refine Below.drew ?_))).mono ?_
    rintro e wz ⟨rfl, rfl⟩
    go_wp2_with fail
    go_ret
    exact ⟨rfl, by repeat (first | exact Below.refl _ _ | refine Below.alloc ?_ (by simp <;> omega) _ | refine Below.setCell ?_ (by simp <;> omega) _ | refine Below.drew ?_)⟩
  simp only [if_pos hn1] at hsz
  have hsb := Lib.hid (fun W (hW : Below w.heap.size w W) => szBoxS_v n2 p2 c2 (1048576 - n1) (by omega) m2 a2 nn2 H2.out xx2 W (R2.out.later hW))
  by_cases hn2 : n2 + totN nn2 n2 ≤ 1048576 - n1
  rotate_left
  · simp only [if_neg hn2] at hsb
    go_enter Try.func9, Try.ntmps9
    go_wp2_with fail
    refine (hsz.out _ (by repeat (first | exact Below.refl _ _ | refine Below.alloc ?_ (by simp <;> omega) _ | refine Below.setCell ?_ (by simp <;> omega) _ | refine Below.drew ?_))).mono ?_
    rintro e wz ⟨rfl, rfl⟩
    go_wp2_with fail
    refine (hsb.out _ (by repeat (first | exact Below.refl _ _ | refine Below.alloc ?_ (by simp <;> omega) _ | refine Below.setCell ?_ (by simp <;> omega) _ | refine Below.drew ?_))).mono ?_
    rintro e wz ⟨rfl, hb⟩
    have hbz := below_via hb (B := w.heap.size) (w := w) (by repeat (first | exact Below.refl _ _ | refine Below.alloc ?_ (by simp <;> omega) _ | refine Below.setCell ?_ (by simp <;> omega) _ | refine Below.drew ?_)) (by simp <;> omega)
    go_wp2_with fail
    go_ret
    exact ⟨rfl, hbz⟩
  simp only [if_pos hn2] at hsb
  have hb2 : n2 ≤ 1048576 := by omega
  have hm5 := Lib.hid (fun i (hi : i < n2) => show nn2 i ≤ 1048576 from by have := totN_one (nn := nn2) hi; omega)
  obtain ⟨I0, hI0⟩ : ∃ I, I = decide (bxsOk A0 B0 n1 z1 n2 a2 nn2 xx2) := ⟨_, rfl⟩
  have hS := Lib.hid (fun W u c g o pb cb (hu : FlatAt W 0 W.heap.size u g o (n1 * 3) (fun j => .int .i64 (z1 j))) (hv : NRs W (.slice pb n2 cb) n2 2 a2 nn2 xx2) => sBoxesOk_any A0 B0 n1 (by unfold maxLen; omega) z1 u c g o pb n2 cb a2 nn2 xx2 W hu hv (by omega))
  have hI := Lib.hid (fun W u c g o pb cb (hu : FlatAt W 0 W.heap.size u g o (n1 * 3) (fun j => .int .i64 (z1 j))) (hv : NRs W (.slice pb n2 cb) n2 2 a2 nn2 xx2) => iBoxesOk_any A0 B0 n1 (by unfold maxLen; omega) z1 u c g o pb n2 cb a2 nn2 xx2 W hu Q1.out hv (by omega) X2.out)
  rw [← hI0] at hS hI
  clear hI0
  have htp := Lib.hid (fun W (hW : Below w.heap.size w W) => (toPieceS_v n1 hn1 z1 (.slice p1 n1 c1) W (R1.out.later hW)).mono (fun e w' h => show ∃ pq cq gq oq, e = .returned (.slice pq n1 cq) ∧ (FlatAt w' W.heap.size w'.heap.size pq gq oq (n1 * 3) (fun j => .int .i64 (z1 j)) ∧ Own w' W.heap.size w'.heap.size (.slice pq n1 cq) n1 (n1 * 3) z1) ∧ Below W.heap.size W w' from by obtain ⟨v', he, ho, hb⟩ := h; obtain ⟨pq, cq, gq, oq, rfl, h1, h2, h3⟩ := ho; exact ⟨pq, cq, gq, oq, he, ⟨h2, ⟨pq, cq, gq, oq, rfl, h1, h2, h3⟩⟩, hb⟩))
  have htb := Lib.hid (fun W (hW : Below w.heap.size w W) => toBoxS_v n2 hb2 p2 c2 a2 nn2 hm5.out xx2 W (R2.out.later hW))
  have hep := Lib.hid (fun W va vb ha hb => eqPieceS_v n1 hn1 z1 va vb W ha hb)
  have heb := Lib.hid (fun W pa pb ca cb ha hb => eqBoxS_v n2 hb2 pa pb ca cb a2 nn2 hm5.out xx2 W ha hb)
  cases I0
  all_goals
    go_enter Try.func9, Try.ntmps9
    have BW0 := Lib.hid (Below.refl w.heap.size w)
    go_wp2_with fail
    refine (hsz.out _ (by repeat (first | exact Below.refl _ _ | refine Below.alloc ?_ (by simp <;> omega) _ | refine Below.setCell ?_ (by simp <;> omega) _ | refine Below.drew ?_))).mono ?_
    rintro e wz ⟨rfl, rfl⟩
    clear hsz
    go_wp2_with fail
    refine (hsb.out _ (by repeat (first | exact Below.refl _ _ | refine Below.alloc ?_ (by simp <;> omega) _ | refine Below.setCell ?_ (by simp <;> omega) _ | refine Below.drew ?_))).mono ?_
    rintro e w1 ⟨rfl, hb⟩
    have E1 : Below w.heap.size w w1 := below_via hb (by repeat (first | exact Below.refl _ _ | refine Below.alloc ?_ (by simp <;> omega) _ | refine Below.setCell ?_ (by simp <;> omega) _ | refine Below.drew ?_)) (by first | (simp; done) | omega | (simp; omega))
    have sz1 : w.heap.size ≤ w1.heap.size := E1.size
    have BW1 := Lib.hid (BW0.out.trans (E1.mono BW0.out.size))
    have XA_1 : Hid (w1.heap[w.heap.size]? = some (.cells #[.int .i64 A0, .int .i64 B0] 23 (0, 0))) := (hb.block _ (by first | (simp; done) | omega | (simp; omega))).trans (by first | exact heap_new _ _ _ (by first | rfl | simp) | exact (heap_old _ _ _ (by simp)).trans (heap_new _ _ _ (by first | rfl | simp)) | exact (heap_old _ _ _ (by simp)).trans ((heap_old _ _ _ (by simp)).trans (heap_new _ _ _ (by first | rfl | simp))))
    clear hb E1 BW0 
    obtain ⟨xa0, xa1⟩ := cells2 XA_1.out
    go_wp2_with fail
    refine (toLimits_any A0 B0 _).mono ?_
    rintro e w2 ⟨rfl, hb⟩
    have E2 : Below w1.heap.size w1 w2 := below_via hb (by repeat (first | exact Below.refl _ _ | refine Below.alloc ?_ (by simp <;> omega) _ | refine Below.setCell ?_ (by simp <;> omega) _ | refine Below.drew ?_)) (by first | (simp; done) | omega | (simp; omega))
    have sz2 : w1.heap.size ≤ w2.heap.size := E2.size
    have BW2 := Lib.hid (BW1.out.trans (E2.mono BW1.out.size))
    clear xa0 xa1
    have XA_2 := Lib.hid (blk_later XA_1.out E2)
    clear hb E2 BW1 XA_1
    go_wp2_with fail
    refine (htp.out _ BW2.out).mono ?_
    rintro e w3 ⟨pa, ca, ga, oa, rfl, ⟨Fa, Oa⟩, hb⟩
    have E3 : Below w2.heap.size w2 w3 := below_via hb (by repeat (first | exact Below.refl _ _ | refine Below.alloc ?_ (by simp <;> omega) _ | refine Below.setCell ?_ (by simp <;> omega) _ | refine Below.drew ?_)) (by first | (simp; done) | omega | (simp; omega))
    have sz3 : w2.heap.size ≤ w3.heap.size := E3.size
    have BW3 := Lib.hid (BW2.out.trans (E3.mono BW2.out.size))
    have XA_3 := Lib.hid (blk_later XA_2.out E3)
    have Fa_3 := Lib.hid Fa
    have Oa_3 := Lib.hid Oa
    clear hb E3 BW2 XA_2 Fa Oa
    go_wp2_with fail
    refine (htb.out _ BW3.out).mono ?_
    rintro e w4 ⟨pb, cb, rfl, Nb, hb⟩
    have E4 : Below w3.heap.size w3 w4 := below_via hb (by repeat (first | exact Below.refl _ _ | refine Below.alloc ?_ (by simp <;> omega) _ | refine Below.setCell ?_ (by simp <;> omega) _ | refine Below.drew ?_)) (by first | (simp; done) | omega | (simp; omega))
    have sz4 : w3.heap.size ≤ w4.heap.size := E4.size
    have BW4 := Lib.hid (BW3.out.trans (E4.mono BW3.out.size))
    have XA_4 := Lib.hid (blk_later XA_3.out E4)
    have Fa_4 := Lib.hid (Fa_3.out.below E4 (by first | exact Nat.le_refl _ | omega))
    have Oa_4 := Lib.hid (Oa_3.out.below E4 (by first | exact Nat.le_refl _ | omega))
    have Nb_4 := Lib.hid Nb
    clear hb E4 BW3 XA_3 Fa_3 Oa_3 Nb
    go_wp2_with fail
    refine (hS.out _ pa ca ga oa pb cb (Fa_4.out.wide (Nat.zero_le _) (by omega)) (Nb_4.out.rds (by omega))).mono ?_
    rintro e w5 ⟨rfl, hb⟩
    have E5 : Below w4.heap.size w4 w5 := below_via hb (by repeat (first | exact Below.refl _ _ | refine Below.alloc ?_ (by simp <;> omega) _ | refine Below.setCell ?_ (by simp <;> omega) _ | refine Below.drew ?_)) (by first | (simp; done) | omega | (simp; omega))
    have sz5 : w4.heap.size ≤ w5.heap.size := E5.size
    have BW5 := Lib.hid (BW4.out.trans (E5.mono BW4.out.size))
    have XA_5 := Lib.hid (blk_later XA_4.out E5)
    clear hb E5 BW4 XA_4 Fa_4 Oa_4 Nb_4
    go_wp2_with fail
    refine (htp.out _ BW5.out).mono ?_
    rintro e w6 ⟨px, cx, gx, ox, rfl, ⟨Fx, Ox⟩, hb⟩
    have E6 : Below w5.heap.size w5 w6 := below_via hb (by repeat (first | exact Below.refl _ _ | refine Below.alloc ?_ (by simp <;> omega) _ | refine Below.setCell ?_ (by simp <;> omega) _ | refine Below.drew ?_)) (by first | (simp; done) | omega | (simp; omega))
    have sz6 : w5.heap.size ≤ w6.heap.size := E6.size
    have BW6 := Lib.hid (BW5.out.trans (E6.mono BW5.out.size))
    have XA_6 := Lib.hid (blk_later XA_5.out E6)
    have Fx_6 := Lib.hid Fx
    have Ox_6 := Lib.hid Ox
    clear hb E6 BW5 XA_5 Fx Ox
    go_wp2_with fail
    refine (htb.out _ BW6.out).mono ?_
    rintro e w7 ⟨py, cy, rfl, Ny, hb⟩
    have E7 : Below w6.heap.size w6 w7 := below_via hb (by repeat (first | exact Below.refl _ _ | refine Below.alloc ?_ (by simp <;> omega) _ | refine Below.setCell ?_ (by simp <;> omega) _ | refine Below.drew ?_)) (by first | (simp; done) | omega | (simp; omega))
    have sz7 : w6.heap.size ≤ w7.heap.size := E7.size
    have BW7 := Lib.hid (BW6.out.trans (E7.mono BW6.out.size))
    have XA_7 := Lib.hid (blk_later XA_6.out E7)
    have Fx_7 := Lib.hid (Fx_6.out.below E7 (by first | exact Nat.le_refl _ | omega))
    have Ox_7 := Lib.hid (Ox_6.out.below E7 (by first | exact Nat.le_refl _ | omega))
    have Ny_7 := Lib.hid Ny
    clear hb E7 BW6 XA_6 Fx_6 Ox_6 Ny
    obtain ⟨xa0, xa1⟩ := cells2 XA_7.out
    go_wp2_with fail
    refine (toLimits_any A0 B0 _).mono ?_
    rintro e w8 ⟨rfl, hb⟩
    have E8 : Below w7.heap.size w7 w8 := below_via hb (by repeat (first | exact Below.refl _ _ | refine Below.alloc ?_ (by simp <;> omega) _ | refine Below.setCell ?_ (by simp <;> omega) _ | refine Below.drew ?_)) (by first | (simp; done) | omega | (simp; omega))
    have sz8 : w7.heap.size ≤ w8.heap.size := E8.size
    have BW8 := Lib.hid (BW7.out.trans (E8.mono BW7.out.size))
    clear xa0 xa1
    have XA_8 := Lib.hid (blk_later XA_7.out E8)
    have Fx_8 := Lib.hid (Fx_7.out.below E8 (by first | exact Nat.le_refl _ | omega))
    have Ox_8 := Lib.hid (Ox_7.out.below E8 (by first | exact Nat.le_refl _ | omega))
    have Ny_8 := Lib.hid (Ny_7.out.below E8 (by first | exact Nat.le_refl _ | omega))
    clear hb E8 BW7 XA_7 Fx_7 Ox_7 Ny_7
    go_wp2_with fail
    refine (hI.out _ px cx gx ox py cy (Fx_8.out.wide (Nat.zero_le _) (by omega)) (Ny_8.out.rds (by omega))).mono ?_
    rintro e w9 ⟨rfl, hb⟩
    have E9 : Below w8.heap.size w8 w9 := below_via hb (by repeat (first | exact Below.refl _ _ | refine Below.alloc ?_ (by simp <;> omega) _ | refine Below.setCell ?_ (by simp <;> omega) _ | refine Below.drew ?_)) (by first | (simp; done) | omega | (simp; omega))
    have sz9 : w8.heap.size ≤ w9.heap.size := E9.size
    have BW9 := Lib.hid (BW8.out.trans (E9.mono BW8.out.size))
    have XA_9 := Lib.hid (blk_later XA_8.out E9)
    have Ox_9 := Lib.hid (Ox_8.out.below E9 (by first | exact Nat.le_refl _ | omega))
    have Ny_9 := Lib.hid (Ny_8.out.below E9 (by first | exact Nat.le_refl _ | omega))
    clear hb E9 BW8 XA_8 Fx_8 Ox_8 Ny_8
    go_wp2_with fail
    refine (htp.out _ BW9.out).mono ?_
    rintro e w10 ⟨pe, ce, ge, oe, rfl, ⟨Fe, Oe⟩, hb⟩
    have E10 : Below w9.heap.size w9 w10 := below_via hb (by repeat (first | exact Below.refl _ _ | refine Below.alloc ?_ (by simp <;> omega) _ | refine Below.setCell ?_ (by simp <;> omega) _ | refine Below.drew ?_)) (by first | (simp; done) | omega | (simp; omega))
    have sz10 : w9.heap.size ≤ w10.heap.size := E10.size
    have BW10 := Lib.hid (BW9.out.trans (E10.mono BW9.out.size))
    have XA_10 := Lib.hid (blk_later XA_9.out E10)
    have Ox_10 := Lib.hid (Ox_9.out.below E10 (by first | exact Nat.le_refl _ | omega))
    have Ny_10 := Lib.hid (Ny_9.out.below E10 (by first | exact Nat.le_refl _ | omega))
    have Fe_10 := Lib.hid Fe
    have Oe_10 := Lib.hid Oe
    clear hb E10 BW9 XA_9 Ox_9 Ny_9 Fe Oe
    go_wp2_with fail
    refine (hep.out _ _ _ (Ox_10.out.rd (by omega)) (Oe_10.out.rd (by omega))).mono ?_
    rintro e w11 ⟨rfl, hb⟩
    have E11 : Below w10.heap.size w10 w11 := below_via hb (by repeat (first | exact Below.refl _ _ | refine Below.alloc ?_ (by simp <;> omega) _ | refine Below.setCell ?_ (by simp <;> omega) _ | refine Below.drew ?_)) (by first | (simp; done) | omega | (simp; omega))
    have sz11 : w10.heap.size ≤ w11.heap.size := E11.size
    have BW11 := Lib.hid (BW10.out.trans (E11.mono BW10.out.size))
    have XA_11 := Lib.hid (blk_later XA_10.out E11)
    have Ny_11 := Lib.hid (Ny_10.out.below E11 (by first | exact Nat.le_refl _ | omega))
    clear hb E11 BW10 XA_10 Ox_10 Ny_10 Fe_10 Oe_10
    go_wp2_with fail
    refine (htb.out _ BW11.out).mono ?_
    rintro e w12 ⟨pf, cf, rfl, Nf, hb⟩
    have E12 : Below w11.heap.size w11 w12 := below_via hb (by repeat (first | exact Below.refl _ _ | refine Below.alloc ?_ (by simp <;> omega) _ | refine Below.setCell ?_ (by simp <;> omega) _ | refine Below.drew ?_)) (by first | (simp; done) | omega | (simp; omega))
    have sz12 : w11.heap.size ≤ w12.heap.size := E12.size
    have BW12 := Lib.hid (BW11.out.trans (E12.mono BW11.out.size))
    have XA_12 := Lib.hid (blk_later XA_11.out E12)
    have Ny_12 := Lib.hid (Ny_11.out.below E12 (by first | exact Nat.le_refl _ | omega))
    have Nf_12 := Lib.hid Nf
    clear hb E12 BW11 XA_11 Ny_11 Nf
    go_wp2_with fail
    refine (heb.out _ py pf cy cf (Ny_12.out.rd (by omega)) (Nf_12.out.rd (by omega))).mono ?_
    rintro e w13 ⟨rfl, hb⟩
    have E13 : Below w12.heap.size w12 w13 := below_via hb (by repeat (first | exact Below.refl _ _ | refine Below.alloc ?_ (by simp <;> omega) _ | refine Below.setCell ?_ (by simp <;> omega) _ | refine Below.drew ?_)) (by first | (simp; done) | omega | (simp; omega))
    have sz13 : w12.heap.size ≤ w13.heap.size := E13.size
    have BW13 := Lib.hid (BW12.out.trans (E13.mono BW12.out.size))
    have XA_13 := Lib.hid (blk_later XA_12.out E13)
    clear hb E13 BW12 XA_12 Ny_12 Nf_12
    go_wp2_with fail
    go_ret
    exact ⟨rfl, BW13.out⟩

/-! The row's step. -/
theorem own : ownKnob Try.prog.godebug = none := by kernel_rfl
theorem laidOut : laidOutB Try.prog = true := by kernel_rfl
set_option maxRecDepth 100000 in
theorem lifted (os : Os) (started : os.Started) (H : Type) (enc : TypeId × Value → H) :
    ReturnsInHanded {} Try.checked os 9 .any (Rows.fnExactBoxesOkSpec.pre6 enc Try.prog Try.f9 Rows.fnExactBoxesOkRow.domain false) (Rows.fnExactBoxesOkSpec.post enc Try.prog Try.f9 false true false false) := by
  refine returnsInHanded_of_change (C := Try.checked) own started (by kernel_rfl) Try.func9
    (ChangeSpec.witness6 (enc := enc) (C := Try.checked) false ⟨#[], #[.agg #[.int .i64 0, .int .i64 0], .slice none 0 0, .slice none 0 0], []⟩ 8 (by kernel_rfl) (by kernel_rfl) (by kernel_rfl) (by kernel_rfl)) ?_
  intro W base args ds gs before hval0 hW hcnd _
  have hval : ∀ (j : Nat) t v, Try.f9.params[j]? = some t → args[j]? = some v → Value.okWide Try.prog W .any base t v := hval0
  have hW' := hW
  obtain ⟨p, q, hA0, hV, rfl, hfz, hnd⟩ := hW
  have hA : DataW.TrodAll enc Try.prog W 0 (fun _ => true) true Try.f9.params.toList args.toList ds p := hA0
  rw [Try.params9] at hA hval
  obtain ⟨v0, vs0, d0, ds0, p0, q0, hargs, rfl, rfl, h0, r0⟩ := trodAll_cons hA
  obtain ⟨v1, vs1, d1, ds1, p1, q1, rfl, rfl, rfl, h1, r1⟩ := trodAll_cons r0
  obtain ⟨v2, vs2, d2, ds2, p2, q2, rfl, rfl, rfl, h2, r2⟩ := trodAll_cons r1
  obtain ⟨rfl, rfl, rfl⟩ := trodAll_nil r2
  obtain rfl : args = #[v0, v1, v2] := by cases args; simp_all
  obtain ⟨rfl, rfl⟩ := trodVars_none hV
  have k0 := h0
  have lt0 : ∀ x ∈ p0, x.block < W.heap.size := by obtain ⟨m, hm⟩ := k0; exact DataW.trod_lt m _ _ _ hm
  obtain ⟨cA0, cB0, yA0, yB0, m0, rfl, -, -, hA0, hB0⟩ := Joins.open_agg2 Try.underlying23 (by kernel_rfl) (show Try.prog.cellsOf 23 = 2 by kernel_rfl) (hval 0 23 v0 rfl rfl) h0
  obtain ⟨A0, eA0, -, wA0⟩ := DataW.trod_int Try.underlying3 hA0
  obtain ⟨B0, eB0, -, wB0⟩ := DataW.trod_int Try.underlying3 hB0
  simp only [List.cons.injEq, and_true] at eA0 eB0
  subst eA0 eB0
  have k1 := h1
  have lt1 : ∀ x ∈ p1, x.block < W.heap.size := by obtain ⟨m, hm⟩ := k1; exact DataW.trod_lt m _ _ _ hm
  obtain ⟨sp1, n1, c1, rfl⟩ := okWide_slice Try.underlying28 (hval 1 28 v1 rfl rfl)
  obtain ⟨z1, cm1, fl1, wq1⟩ := rows_openQ Try.underlying28 Try.underlying64 (by kernel_rfl) (show Try.prog.cellsOf 64 = 3 by kernel_rfl) rfl (by decide) Try.underlying3 (by kernel_rfl) h1
  have k2 := h2
  have lt2 : ∀ x ∈ p2, x.block < W.heap.size := by obtain ⟨m, hm⟩ := k2; exact DataW.trod_lt m _ _ _ hm
  obtain ⟨sp2, n2, c2, rfl⟩ := okWide_slice Try.underlying50 (hval 2 50 v2 rfl rfl)
  obtain ⟨a2, nn2, xx2, hn2, hx2, rr2, wa2, wx2⟩ := nest_openV (K := 2) Try.underlying50 Try.underlying73 (by kernel_rfl) (show Try.prog.cellsOf 73 = 3 by kernel_rfl) rfl (by intro i f hf; match i, hf with | 0, hf => simp at hf; subst hf; rfl | 1, hf => simp at hf; subst hf; rfl | 2, hf => simp at hf; subst hf; rfl) h2
  clear hA0 hval0
  refine (walk A0 B0 _ n1 z1 sp2 n2 c2 a2 nn2 xx2 W wA0 wB0 cm1 fl1 wq1 hn2 hx2 rr2 wa2 wx2).mono fun e W' ⟨he, bel⟩ => ?_
  subst he
  exact ⟨_, rfl, _, _, _, [], _, [], hW', trodAll_mk1 (shut_bool Try.underlying4 _), (trodAll_cons_mk (Below.trod laidOut (by kernel_rfl) (of_decide_eq_true (by kernel_rfl)) k0 bel lt0) (trodAll_cons_mk (Below.trod laidOut (by kernel_rfl) (of_decide_eq_true (by kernel_rfl)) k1 bel lt1) (trodAll_cons_mk (Below.trod laidOut (by kernel_rfl) (of_decide_eq_true (by kernel_rfl)) k2 bel lt2) trodAll_mk0))), rfl, bel.frame _, fun h => by cases h⟩

theorem over : Rows.fnExactBoxesOkRow.holds Try.pinned (OpenSpec.ofChange Rows.fnExactBoxesOkSpec) :=
  OpenClaim.holds_of_wide 9 Try.f9 rfl rfl rfl rfl rfl rfl rfl ⟨rfl, rfl, rfl, rfl, rfl⟩ rfl rfl rfl rfl rfl (by kernel_rfl) Try.func9 (by kernel_rfl)
    (of_decide_eq_true (by kernel_rfl)) (by unfold Func.isWrapper; first | (rw [if_pos (by decide +kernel)]; kernel_rfl) | (rw [if_neg (by decide +kernel)]; exact ⟨rfl, rfl⟩))
    (fun os started H enc _ => lifted os started H enc)

/-- The statement. -/
theorem proved : Rows.FnExactBoxesOkSaid := over
#print axioms proved
end Go.Proofs.Ytnkhjlpeeljelaa.fnExactBoxesOk
