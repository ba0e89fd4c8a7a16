/- For all arguments the exact law of HandTime returns true, and the arguments read as before. No condition. -/
import Derived.Test.YtkdlhapbbnggoaaRows
import Derived.Test.YtkdlhapbbnggoaaBlk
import Derived.Test.YtkdlhapbbnggoaaPolLaw
import Derived.Test.YtkdlhapbbnggoaaScrLaw
import Derived.Test.YtkdlhapbbnggoaaHandTimeI
import Derived.Test.YtkdlhapbbnggoaaHandTimeS
import Derived.Deep.CutRange
import Derived.Deep.RegionWith
import Derived.Deep.RegionHeld3
import Derived.OpenShut
import Derived.ChangeOld
import Derived.Lib.SmallJoins
namespace Go.Proofs.Ytkdlhapbbnggoaa.fnExactHandTime
open Go.ChangeShapes Go.WideShapes Go.ChangeAt Go.RowKit
set_option linter.unusedVariables false

set_option maxRecDepth 100000 in
set_option maxHeartbeats 8000000 in
theorem walk (p0 : Option Addr) (c0 n0 : Nat) (z0 : Nat → Int) (L S V : Int) (w : World) (m0 : n0 ≤ maxLen) (r0 : Rd w (.slice p0 n0 c0) n0 n0 z0) (wL : (Lit.int .i64 L).wf = true) (wS : (Lit.int .i64 S).wf = true) (wV : (Lit.int .i64 V).wf = true) :
    Calls Try.prog 7 #[.agg #[.slice p0 n0 c0], .agg #[.int .i64 L, .int .i64 S, .int .i64 V]] w fun e w' => e = .returned (.bool true) ∧ Below w.heap.size w w' := by
  have BW := Lib.hid (Below.refl w.heap.size w)
  have R0 := Lib.hid r0
  clear r0
  have hsz0 := Lib.hid (fun W (hW : Below w.heap.size w W) => szPolicy_v n0 (.slice p0 n0 c0) 1048576 (by omega) m0 n0 z0 W (R0.out.later hW))
  by_cases hn0 : n0 ≤ 1048576
  rotate_left
  · simp only [if_neg hn0] at hsz0
    go_enter Try.func7, Try.ntmps7
    go_wp2_with fail
    refine (hsz0.out _ (by repeat (first | exact Below.refl _ _ | refine Below.alloc ?_ (by simp <;> omega) _ | refine Below.setCell ?_ (by simp <;> omega) _ | refine Below.drew ?_))).mono ?_
    rintro e wz ⟨rfl, hbz⟩
    have hbz := below_via hbz (B := w.heap.size) (w := w) (by repeat (first | exact Below.refl _ _ | refine Below.alloc ?_ (by simp <;> omega) _ | refine Below.setCell ?_ (by simp <;> omega) _ | refine Below.drew ?_)) (by simp <;> omega)
    go_wp2_with fail
    go_ret
    exact ⟨rfl, hbz⟩
  simp only [if_pos hn0] at hsz0
  obtain ⟨r1, rb, hS, hI⟩ : ∃ (r1 : Int) (rb : Bool), Hid (∀ (W : World) (v : Value), Rd W v n0 n0 z0 → Calls Try.prog 28 #[.agg #[v], .agg #[.int .i64 L, .int .i64 S, .int .i64 V]] W fun e w' => e = .returned (.tuple #[.int .i64 r1, .bool rb]) ∧ Below W.heap.size W w') ∧ Hid (∀ (W : World) (v : Value), Rd W v n0 n0 z0 → Calls Try.prog 29 #[.agg #[v], .agg #[.int .i64 L, .int .i64 S, .int .i64 V]] W fun e w' => e = .returned (.tuple #[.int .i64 r1, .bool rb]) ∧ Below W.heap.size W w') := ⟨htI n0 z0 L S V, htB n0 z0 L S V, fun W v h => sHandTime_v n0 z0 v L S V W h, fun W v h => iHandTime_v n0 z0 v L S V W h⟩
  cases rb
  · skip
    go_enter Try.func7, Try.ntmps7
    go_wp2_with fail
    refine (hsz0.out _ (by repeat (first | exact Below.refl _ _ | refine Below.alloc ?_ (by simp <;> omega) _ | refine Below.setCell ?_ (by simp <;> omega) _ | refine Below.drew ?_))).mono ?_
    rintro e w1 ⟨rfl, hb⟩
    have cc : Below w.heap.size w w1 := below_via hb (by repeat (first | exact Below.refl _ _ | refine Below.alloc ?_ (by simp <;> omega) _ | refine Below.setCell ?_ (by simp <;> omega) _ | refine Below.drew ?_)) (by simp <;> omega)
    have XA : Hid (w1.heap[w.heap.size]? = some (.cells #[.slice p0 n0 c0] 24 (0, 0))) := (hb.block _ (by simp <;> omega)).trans ((heap_old _ _ _ (by simp)).trans (heap_new _ _ _ rfl))
    have XB : Hid (w1.heap[w.heap.size + 1]? = some (.cells #[.int .i64 L, .int .i64 S, .int .i64 V] 32 (0, 0))) := (hb.block _ (by simp <;> omega)).trans (heap_new _ _ _ (by simp))
    have B1 : Hid (Below w.heap.size w w1) := cc
    clear cc hb hsz0 BW
    obtain ⟨xA0, -⟩ := cells1 XA.out
    obtain ⟨xB0, xB1, xB2, -⟩ := cells3 XB.out
    have hK := Lib.hid (fun K (hb : Below w1.heap.size w1 K) => (⟨(cells1 (blk_later XA.out hb)).1, (cells3 (blk_later XB.out hb)).1, (cells3 (blk_later XB.out hb)).2.1, (cells3 (blk_later XB.out hb)).2.2.1⟩ : K.cell? ⟨w.heap.size, 0, none⟩ = some (.slice p0 n0 c0) ∧ K.cell? ⟨w.heap.size + 1, 0, none⟩ = some (.int .i64 L) ∧ K.cell? ⟨w.heap.size + 1, 1, none⟩ = some (.int .i64 S) ∧ K.cell? ⟨w.heap.size + 1, 2, none⟩ = some (.int .i64 V)))
    have hT := Lib.hid (fun K (hb : Below w1.heap.size w1 K) => toPolicy_v n0 hn0 z0 (.slice p0 n0 c0) K (R0.out.later (B1.out.trans (hb.mono B1.out.size))))
    go_upto_region 5 with fail
    go_cut [6, 7] from 6 to 23 (fun s6 s7 wx => s6 = .int .i64 r1 ∧ s7 = .bool false ∧ Below w1.heap.size w1 wx)
    case first =>
      have D0 : Below w1.heap.size w1 w1 := Below.refl _ _
      go_region_held3 (fun K => K.cell? ⟨w.heap.size, 0, none⟩ = some (.slice p0 n0 c0) ∧ K.cell? ⟨w.heap.size + 1, 0, none⟩ = some (.int .i64 L) ∧ K.cell? ⟨w.heap.size + 1, 1, none⟩ = some (.int .i64 S) ∧ K.cell? ⟨w.heap.size + 1, 2, none⟩ = some (.int .i64 V))
        (first | exact hK.out _ (by repeat (first | assumption | exact Below.refl _ _ | refine Below.alloc ?_ (by first | (simp; done) | omega | (simp; omega)) _ | refine Below.drew ?_ | refine Below.setCell ?_ (by first | (simp; done) | omega | (simp; omega)) _)) | go_keep)
        (first
          | (go_at_call 17; ((with_reducible refine (hT.out _ (by repeat (first | assumption | exact Below.refl _ _ | refine Below.alloc ?_ (by first | (simp; done) | omega | (simp; omega)) _ | refine Below.drew ?_ | refine Below.setCell ?_ (by first | (simp; done) | omega | (simp; omega)) _))).mono ?_); rintro e k1 ⟨p1, c1, rfl, q1, b1⟩; have D1 : Below w1.heap.size w1 k1 := below_via b1 (by repeat (first | assumption | exact Below.refl _ _ | refine Below.alloc ?_ (by first | (simp; done) | omega | (simp; omega)) _ | refine Below.drew ?_ | refine Below.setCell ?_ (by first | (simp; done) | omega | (simp; omega)) _)) (by first | (simp; done) | omega | (simp; omega)); have z1 := D1.size; (first | (have Y := blk_later (heap_new _ _ _ rfl) b1) | (have Y := blk_later (heap_newd _ _) b1) | skip)))
          | (go_at_call 21; ((with_reducible refine (toScreen_any L S V _).mono ?_); rintro e k2 ⟨rfl, b2⟩; have E2 : Below k1.heap.size k1 k2 := below_via b2 (by repeat (first | assumption | exact Below.refl _ _ | refine Below.alloc ?_ (by first | (simp; done) | omega | (simp; omega)) _ | refine Below.drew ?_ | refine Below.setCell ?_ (by first | (simp; done) | omega | (simp; omega)) _)) (by first | (simp; done) | omega | (simp; omega)); have D2 : Below w1.heap.size w1 k2 := D1.trans (E2.mono D1.size); have z2 := E2.size; (first | (have Y := blk_later Y E2) | (have Y := blk_later (heap_new _ _ _ rfl) b2) | skip); have Q2 := (q1.below E2 (Nat.le_refl _)).rd E2.size))
          | (go_at_call 28; ((with_reducible refine (hS.out _ _ (Q2.later (by repeat (first | assumption | exact Below.refl _ _ | refine Below.alloc ?_ (by first | (simp; done) | omega | (simp; omega)) _ | refine Below.drew ?_ | refine Below.setCell ?_ (by first | (simp; done) | omega | (simp; omega)) _)))).mono ?_); rintro e k3 ⟨rfl, b3⟩; have E3 : Below k2.heap.size k2 k3 := below_via b3 (by repeat (first | assumption | exact Below.refl _ _ | refine Below.alloc ?_ (by first | (simp; done) | omega | (simp; omega)) _ | refine Below.drew ?_ | refine Below.setCell ?_ (by first | (simp; done) | omega | (simp; omega)) _)) (by first | (simp; done) | omega | (simp; omega)); have D3 : Below w1.heap.size w1 k3 := D2.trans (E3.mono D2.size); have z3 := E3.size; (first | (have Y := blk_later Y E3) | (have Y := blk_later (heap_new _ _ _ rfl) b3) | skip); (first | (have yy := cells3 Y; obtain ⟨y0, y1, y2, u0, u1, u2⟩ := yy) | skip))))
      all_goals
        go_wp2_with fail
        go_meet
        exact ⟨rfl, rfl, (by repeat (first | assumption | exact Below.refl _ _ | refine Below.alloc ?_ (by first | (simp; done) | omega | (simp; omega)) _ | refine Below.drew ?_ | refine Below.setCell ?_ (by first | (simp; done) | omega | (simp; omega)) _))⟩
    case rest =>
      obtain ⟨rfl, rfl, hb⟩ := hcut
      obtain ⟨w2, rfl⟩ : ∃ x, x = wc := ⟨_, rfl⟩
      have B2 := Lib.hid (B1.out.trans (hb.mono B1.out.size))
      have sz2 := hb.size
      have YA := Lib.hid (blk_later XA.out hb)
      have YB := Lib.hid (blk_later XB.out hb)
      clear hK hT
      clear xA0 xB0 xB1 xB2
      clear XA XB B1 hb
      have XA := YA
      have XB := YB
      clear YA YB
      obtain ⟨xA0, -⟩ := cells1 XA.out
      have hT := Lib.hid (fun K (hb : Below w2.heap.size w2 K) => toPolicy_v n0 hn0 z0 (.slice p0 n0 c0) K (R0.out.later (B2.out.trans (hb.mono B2.out.size))))
      go_wp2_with fail
      refine (hT.out _ (Below.refl _ _)).mono ?_
      rintro e w3 ⟨pX, cX, rfl, qX, hb⟩
      have B3 := Lib.hid (B2.out.trans (hb.mono B2.out.size))
      have sz3 := hb.size
      have QX := Lib.hid qX
      have YA := Lib.hid (blk_later XA.out hb)
      have YB := Lib.hid (blk_later XB.out hb)
      clear hT
      clear xA0
      clear XA XB B2 hb qX
      have XA := YA
      have XB := YB
      clear YA YB
      go_wp2_with fail
      obtain ⟨w4, hw4⟩ : ∃ x, x = w3.alloc (.cells #[.slice pX n0 cX] 27) := ⟨_, rfl⟩
      have b4 : Below w3.heap.size w3 w4 := by rw [hw4]; exact (Below.refl _ _).alloc (Nat.le_refl _) _
      have XX : Hid (w4.heap[w3.heap.size]? = some (.cells #[.slice pX n0 cX] 27 (0, 0))) := by rw [hw4]; exact heap_new _ _ _ rfl
      rw [← hw4]
      have B4 := Lib.hid (B3.out.trans (b4.mono B3.out.size))
      have sz4 := b4.size
      have RX := Lib.hid (((QX.out.below b4 (Nat.le_refl _)).rd b4.size))
      have YA := Lib.hid (blk_later XA.out b4)
      have YB := Lib.hid (blk_later XB.out b4)
      clear XA XB B3 b4 QX hw4
      have XA := YA
      have XB := YB
      clear YA YB
      obtain ⟨xB0, xB1, xB2, -⟩ := cells3 XB.out
      obtain ⟨xX0, -⟩ := cells1 XX.out
      have hK := Lib.hid (fun K (hb : Below w4.heap.size w4 K) => (⟨(cells3 (blk_later XB.out hb)).1, (cells3 (blk_later XB.out hb)).2.1, (cells3 (blk_later XB.out hb)).2.2.1, (cells1 (blk_later XX.out hb)).1⟩ : K.cell? ⟨w.heap.size + 1, 0, none⟩ = some (.int .i64 L) ∧ K.cell? ⟨w.heap.size + 1, 1, none⟩ = some (.int .i64 S) ∧ K.cell? ⟨w.heap.size + 1, 2, none⟩ = some (.int .i64 V) ∧ K.cell? ⟨w3.heap.size, 0, none⟩ = some (.slice pX n0 cX)))
      go_upto_region 7 with fail
      go_cut [9, 10] from 9 to 32 (fun s9 s10 wx => s9 = .int .i64 r1 ∧ s10 = .bool false ∧ Below w4.heap.size w4 wx)
      case first =>
        have D0 : Below w4.heap.size w4 w4 := Below.refl _ _
        go_region_held3 (fun K => K.cell? ⟨w.heap.size + 1, 0, none⟩ = some (.int .i64 L) ∧ K.cell? ⟨w.heap.size + 1, 1, none⟩ = some (.int .i64 S) ∧ K.cell? ⟨w.heap.size + 1, 2, none⟩ = some (.int .i64 V) ∧ K.cell? ⟨w3.heap.size, 0, none⟩ = some (.slice pX n0 cX))
          (first | exact hK.out _ (by repeat (first | assumption | exact Below.refl _ _ | refine Below.alloc ?_ (by first | (simp; done) | omega | (simp; omega)) _ | refine Below.drew ?_ | refine Below.setCell ?_ (by first | (simp; done) | omega | (simp; omega)) _)) | go_keep)
          (first
            | (go_at_call 21; ((with_reducible refine (toScreen_any L S V _).mono ?_); rintro e k2 ⟨rfl, b2⟩; have D2 : Below w4.heap.size w4 k2 := below_via b2 (by repeat (first | assumption | exact Below.refl _ _ | refine Below.alloc ?_ (by first | (simp; done) | omega | (simp; omega)) _ | refine Below.drew ?_ | refine Below.setCell ?_ (by first | (simp; done) | omega | (simp; omega)) _)) (by first | (simp; done) | omega | (simp; omega)); have z2 := D2.size; (first | (have Y := blk_later (heap_new _ _ _ rfl) b2) | (have Y := blk_later (heap_newd _ _) b2) | skip)))
            | (go_at_call 29; ((with_reducible refine (hI.out _ _ (RX.out.later (by repeat (first | assumption | exact Below.refl _ _ | refine Below.alloc ?_ (by first | (simp; done) | omega | (simp; omega)) _ | refine Below.drew ?_ | refine Below.setCell ?_ (by first | (simp; done) | omega | (simp; omega)) _)))).mono ?_); rintro e k3 ⟨rfl, b3⟩; have E3 : Below k2.heap.size k2 k3 := below_via b3 (by repeat (first | assumption | exact Below.refl _ _ | refine Below.alloc ?_ (by first | (simp; done) | omega | (simp; omega)) _ | refine Below.drew ?_ | refine Below.setCell ?_ (by first | (simp; done) | omega | (simp; omega)) _)) (by first | (simp; done) | omega | (simp; omega)); have D3 : Below w4.heap.size w4 k3 := D2.trans (E3.mono D2.size); have z3 := E3.size; (first | (have Y := blk_later Y E3) | (have Y := blk_later (heap_new _ _ _ rfl) b3) | skip); (first | (have yy := cells3 Y; obtain ⟨y0, y1, y2, u0, u1, u2⟩ := yy) | skip))))
        all_goals
          go_wp2_with fail
          go_meet
          exact ⟨rfl, rfl, (by repeat (first | assumption | exact Below.refl _ _ | refine Below.alloc ?_ (by first | (simp; done) | omega | (simp; omega)) _ | refine Below.drew ?_ | refine Below.setCell ?_ (by first | (simp; done) | omega | (simp; omega)) _))⟩
      case rest =>
        obtain ⟨rfl, rfl, hb⟩ := hcut
        obtain ⟨w5, rfl⟩ : ∃ x, x = wc := ⟨_, rfl⟩
        have B5 := Lib.hid (B4.out.trans (hb.mono B4.out.size))
        have sz5 := hb.size
        have RX5 := Lib.hid (RX.out.later hb)
        have YA := Lib.hid (blk_later XA.out hb)
        have YX := Lib.hid (blk_later XX.out hb)
        clear hK
        clear xB0 xB1 xB2 xX0
        clear XA XB XX B4 hb RX
        have XA := YA
        have XX := YX
        clear YA YX
        have hne : (r1 != r1) = false := by simp
        have B6 := B5
        have RX6 := RX5
        clear B5 RX5
        obtain ⟨xA0, -⟩ := cells1 XA.out
        obtain ⟨xX0, -⟩ := cells1 XX.out
        go_wp2_with fail
        have hK := Lib.hid (fun K (hb : Below w5.heap.size w5 K) => (⟨(cells1 (blk_later XA.out hb)).1, (cells1 (blk_later XX.out hb)).1⟩ : K.cell? ⟨w.heap.size, 0, none⟩ = some (.slice p0 n0 c0) ∧ K.cell? ⟨w3.heap.size, 0, none⟩ = some (.slice pX n0 cX)))
        have hT := Lib.hid (fun K (hb : Below w5.heap.size w5 K) => toPolicy_v n0 hn0 z0 (.slice p0 n0 c0) K (R0.out.later (B6.out.trans (hb.mono B6.out.size))))
        have D0 : Below w5.heap.size w5 w5 := Below.refl _ _
        go_region_held3 (fun K => K.cell? ⟨w.heap.size, 0, none⟩ = some (.slice p0 n0 c0) ∧ K.cell? ⟨w3.heap.size, 0, none⟩ = some (.slice pX n0 cX))
          (first | exact hK.out _ (by repeat (first | assumption | exact Below.refl _ _ | refine Below.alloc ?_ (by first | (simp; done) | omega | (simp; omega)) _ | refine Below.drew ?_ | refine Below.setCell ?_ (by first | (simp; done) | omega | (simp; omega)) _)) | go_keep)
          (first
            | (go_at_call 17; ((with_reducible refine (hT.out _ (by repeat (first | assumption | exact Below.refl _ _ | refine Below.alloc ?_ (by first | (simp; done) | omega | (simp; omega)) _ | refine Below.drew ?_ | refine Below.setCell ?_ (by first | (simp; done) | omega | (simp; omega)) _))).mono ?_); rintro e k1 ⟨p1, c1, rfl, q1, b1⟩; have D1 : Below w5.heap.size w5 k1 := below_via b1 (by repeat (first | assumption | exact Below.refl _ _ | refine Below.alloc ?_ (by first | (simp; done) | omega | (simp; omega)) _ | refine Below.drew ?_ | refine Below.setCell ?_ (by first | (simp; done) | omega | (simp; omega)) _)) (by first | (simp; done) | omega | (simp; omega)); have z1 := D1.size; have Q1 := q1.rd (Nat.le_refl _)))
            | (go_at_call 19; ((with_reducible refine (eqPolicy_v n0 hn0 z0 _ _ _ (RX6.out.later D1) Q1).mono ?_); rintro e k3 ⟨rfl, b3⟩; have D3 : Below w5.heap.size w5 k3 := below_via b3 (by repeat (first | assumption | exact Below.refl _ _ | refine Below.alloc ?_ (by first | (simp; done) | omega | (simp; omega)) _ | refine Below.drew ?_ | refine Below.setCell ?_ (by first | (simp; done) | omega | (simp; omega)) _)) (by first | (simp; done) | omega | (simp; omega)))))
        all_goals
          go_wp2_with fail
          go_ret
          exact ⟨rfl, B6.out.trans (D3.mono B6.out.size)⟩
  · skip
    go_enter Try.func7, Try.ntmps7
    go_wp2_with fail
    refine (hsz0.out _ (by repeat (first | exact Below.refl _ _ | refine Below.alloc ?_ (by simp <;> omega) _ | refine Below.setCell ?_ (by simp <;> omega) _ | refine Below.drew ?_))).mono ?_
    rintro e w1 ⟨rfl, hb⟩
    have cc : Below w.heap.size w w1 := below_via hb (by repeat (first | exact Below.refl _ _ | refine Below.alloc ?_ (by simp <;> omega) _ | refine Below.setCell ?_ (by simp <;> omega) _ | refine Below.drew ?_)) (by simp <;> omega)
    have XA : Hid (w1.heap[w.heap.size]? = some (.cells #[.slice p0 n0 c0] 24 (0, 0))) := (hb.block _ (by simp <;> omega)).trans ((heap_old _ _ _ (by simp)).trans (heap_new _ _ _ rfl))
    have XB : Hid (w1.heap[w.heap.size + 1]? = some (.cells #[.int .i64 L, .int .i64 S, .int .i64 V] 32 (0, 0))) := (hb.block _ (by simp <;> omega)).trans (heap_new _ _ _ (by simp))
    have B1 : Hid (Below w.heap.size w w1) := cc
    clear cc hb hsz0 BW
    obtain ⟨xA0, -⟩ := cells1 XA.out
    obtain ⟨xB0, xB1, xB2, -⟩ := cells3 XB.out
    have hK := Lib.hid (fun K (hb : Below w1.heap.size w1 K) => (⟨(cells1 (blk_later XA.out hb)).1, (cells3 (blk_later XB.out hb)).1, (cells3 (blk_later XB.out hb)).2.1, (cells3 (blk_later XB.out hb)).2.2.1⟩ : K.cell? ⟨w.heap.size, 0, none⟩ = some (.slice p0 n0 c0) ∧ K.cell? ⟨w.heap.size + 1, 0, none⟩ = some (.int .i64 L) ∧ K.cell? ⟨w.heap.size + 1, 1, none⟩ = some (.int .i64 S) ∧ K.cell? ⟨w.heap.size + 1, 2, none⟩ = some (.int .i64 V)))
    have hT := Lib.hid (fun K (hb : Below w1.heap.size w1 K) => toPolicy_v n0 hn0 z0 (.slice p0 n0 c0) K (R0.out.later (B1.out.trans (hb.mono B1.out.size))))
    go_upto_region 5 with fail
    go_cut [6, 7] from 6 to 23 (fun s6 s7 wx => s6 = .int .i64 r1 ∧ s7 = .bool true ∧ Below w1.heap.size w1 wx)
    case first =>
      have D0 : Below w1.heap.size w1 w1 := Below.refl _ _
      go_region_held3 (fun K => K.cell? ⟨w.heap.size, 0, none⟩ = some (.slice p0 n0 c0) ∧ K.cell? ⟨w.heap.size + 1, 0, none⟩ = some (.int .i64 L) ∧ K.cell? ⟨w.heap.size + 1, 1, none⟩ = some (.int .i64 S) ∧ K.cell? ⟨w.heap.size + 1, 2, none⟩ = some (.int .i64 V))
        (first | exact hK.out _ (by repeat (first | assumption | exact Below.refl _ _ | refine Below.alloc ?_ (by first | (simp; done) | omega | (simp; omega)) _ | refine Below.drew ?_ | refine Below.setCell ?_ (by first | (simp; done) | omega | (simp; omega)) _)) | go_keep)
        (first
          | (go_at_call 17; ((with_reducible refine (hT.out _ (by repeat (first | assumption | exact Below.refl _ _ | refine Below.alloc ?_ (by first | (simp; done) | omega | (simp; omega)) _ | refine Below.drew ?_ | refine Below.setCell ?_ (by first | (simp; done) | omega | (simp; omega)) _))).mono ?_); rintro e k1 ⟨p1, c1, rfl, q1, b1⟩; have D1 : Below w1.heap.size w1 k1 := below_via b1 (by repeat (first | assumption | exact Below.refl _ _ | refine Below.alloc ?_ (by first | (simp; done) | omega | (simp; omega)) _ | refine Below.drew ?_ | refine Below.setCell ?_ (by first | (simp; done) | omega | (simp; omega)) _)) (by first | (simp; done) | omega | (simp; omega)); have z1 := D1.size; (first | (have Y := blk_later (heap_new _ _ _ rfl) b1) | (have Y := blk_later (heap_newd _ _) b1) | skip)))
          | (go_at_call 21; ((with_reducible refine (toScreen_any L S V _).mono ?_); rintro e k2 ⟨rfl, b2⟩; have E2 : Below k1.heap.size k1 k2 := below_via b2 (by repeat (first | assumption | exact Below.refl _ _ | refine Below.alloc ?_ (by first | (simp; done) | omega | (simp; omega)) _ | refine Below.drew ?_ | refine Below.setCell ?_ (by first | (simp; done) | omega | (simp; omega)) _)) (by first | (simp; done) | omega | (simp; omega)); have D2 : Below w1.heap.size w1 k2 := D1.trans (E2.mono D1.size); have z2 := E2.size; (first | (have Y := blk_later Y E2) | (have Y := blk_later (heap_new _ _ _ rfl) b2) | skip); have Q2 := (q1.below E2 (Nat.le_refl _)).rd E2.size))
          | (go_at_call 28; ((with_reducible refine (hS.out _ _ (Q2.later (by repeat (first | assumption | exact Below.refl _ _ | refine Below.alloc ?_ (by first | (simp; done) | omega | (simp; omega)) _ | refine Below.drew ?_ | refine Below.setCell ?_ (by first | (simp; done) | omega | (simp; omega)) _)))).mono ?_); rintro e k3 ⟨rfl, b3⟩; have E3 : Below k2.heap.size k2 k3 := below_via b3 (by repeat (first | assumption | exact Below.refl _ _ | refine Below.alloc ?_ (by first | (simp; done) | omega | (simp; omega)) _ | refine Below.drew ?_ | refine Below.setCell ?_ (by first | (simp; done) | omega | (simp; omega)) _)) (by first | (simp; done) | omega | (simp; omega)); have D3 : Below w1.heap.size w1 k3 := D2.trans (E3.mono D2.size); have z3 := E3.size; (first | (have Y := blk_later Y E3) | (have Y := blk_later (heap_new _ _ _ rfl) b3) | skip); (first | (have yy := cells3 Y; obtain ⟨y0, y1, y2, u0, u1, u2⟩ := yy) | skip))))
      all_goals
        go_wp2_with fail
        go_meet
        exact ⟨rfl, rfl, (by repeat (first | assumption | exact Below.refl _ _ | refine Below.alloc ?_ (by first | (simp; done) | omega | (simp; omega)) _ | refine Below.drew ?_ | refine Below.setCell ?_ (by first | (simp; done) | omega | (simp; omega)) _))⟩
    case rest =>
      obtain ⟨rfl, rfl, hb⟩ := hcut
      obtain ⟨w2, rfl⟩ : ∃ x, x = wc := ⟨_, rfl⟩
      have B2 := Lib.hid (B1.out.trans (hb.mono B1.out.size))
      have sz2 := hb.size
      have YA := Lib.hid (blk_later XA.out hb)
      have YB := Lib.hid (blk_later XB.out hb)
      clear hK hT
      clear xA0 xB0 xB1 xB2
      clear XA XB B1 hb
      have XA := YA
      have XB := YB
      clear YA YB
      obtain ⟨xA0, -⟩ := cells1 XA.out
      have hT := Lib.hid (fun K (hb : Below w2.heap.size w2 K) => toPolicy_v n0 hn0 z0 (.slice p0 n0 c0) K (R0.out.later (B2.out.trans (hb.mono B2.out.size))))
      go_wp2_with fail
      refine (hT.out _ (Below.refl _ _)).mono ?_
      rintro e w3 ⟨pX, cX, rfl, qX, hb⟩
      have B3 := Lib.hid (B2.out.trans (hb.mono B2.out.size))
      have sz3 := hb.size
      have QX := Lib.hid qX
      have YA := Lib.hid (blk_later XA.out hb)
      have YB := Lib.hid (blk_later XB.out hb)
      clear hT
      clear xA0
      clear XA XB B2 hb qX
      have XA := YA
      have XB := YB
      clear YA YB
      go_wp2_with fail
      obtain ⟨w4, hw4⟩ : ∃ x, x = w3.alloc (.cells #[.slice pX n0 cX] 27) := ⟨_, rfl⟩
      have b4 : Below w3.heap.size w3 w4 := by rw [hw4]; exact (Below.refl _ _).alloc (Nat.le_refl _) _
      have XX : Hid (w4.heap[w3.heap.size]? = some (.cells #[.slice pX n0 cX] 27 (0, 0))) := by rw [hw4]; exact heap_new _ _ _ rfl
      rw [← hw4]
      have B4 := Lib.hid (B3.out.trans (b4.mono B3.out.size))
      have sz4 := b4.size
      have RX := Lib.hid (((QX.out.below b4 (Nat.le_refl _)).rd b4.size))
      have YA := Lib.hid (blk_later XA.out b4)
      have YB := Lib.hid (blk_later XB.out b4)
      clear XA XB B3 b4 QX hw4
      have XA := YA
      have XB := YB
      clear YA YB
      obtain ⟨xB0, xB1, xB2, -⟩ := cells3 XB.out
      obtain ⟨xX0, -⟩ := cells1 XX.out
      have hK := Lib.hid (fun K (hb : Below w4.heap.size w4 K) => (⟨(cells3 (blk_later XB.out hb)).1, (cells3 (blk_later XB.out hb)).2.1, (cells3 (blk_later XB.out hb)).2.2.1, (cells1 (blk_later XX.out hb)).1⟩ : K.cell? ⟨w.heap.size + 1, 0, none⟩ = some (.int .i64 L) ∧ K.cell? ⟨w.heap.size + 1, 1, none⟩ = some (.int .i64 S) ∧ K.cell? ⟨w.heap.size + 1, 2, none⟩ = some (.int .i64 V) ∧ K.cell? ⟨w3.heap.size, 0, none⟩ = some (.slice pX n0 cX)))
      go_upto_region 7 with fail
      go_cut [9, 10] from 9 to 32 (fun s9 s10 wx => s9 = .int .i64 r1 ∧ s10 = .bool true ∧ Below w4.heap.size w4 wx)
      case first =>
        have D0 : Below w4.heap.size w4 w4 := Below.refl _ _
        go_region_held3 (fun K => K.cell? ⟨w.heap.size + 1, 0, none⟩ = some (.int .i64 L) ∧ K.cell? ⟨w.heap.size + 1, 1, none⟩ = some (.int .i64 S) ∧ K.cell? ⟨w.heap.size + 1, 2, none⟩ = some (.int .i64 V) ∧ K.cell? ⟨w3.heap.size, 0, none⟩ = some (.slice pX n0 cX))
          (first | exact hK.out _ (by repeat (first | assumption | exact Below.refl _ _ | refine Below.alloc ?_ (by first | (simp; done) | omega | (simp; omega)) _ | refine Below.drew ?_ | refine Below.setCell ?_ (by first | (simp; done) | omega | (simp; omega)) _)) | go_keep)
          (first
            | (go_at_call 21; ((with_reducible refine (toScreen_any L S V _).mono ?_); rintro e k2 ⟨rfl, b2⟩; have D2 : Below w4.heap.size w4 k2 := below_via b2 (by repeat (first | assumption | exact Below.refl _ _ | refine Below.alloc ?_ (by first | (simp; done) | omega | (simp; omega)) _ | refine Below.drew ?_ | refine Below.setCell ?_ (by first | (simp; done) | omega | (simp; omega)) _)) (by first | (simp; done) | omega | (simp; omega)); have z2 := D2.size; (first | (have Y := blk_later (heap_new _ _ _ rfl) b2) | (have Y := blk_later (heap_newd _ _) b2) | skip)))
            | (go_at_call 29; ((with_reducible refine (hI.out _ _ (RX.out.later (by repeat (first | assumption | exact Below.refl _ _ | refine Below.alloc ?_ (by first | (simp; done) | omega | (simp; omega)) _ | refine Below.drew ?_ | refine Below.setCell ?_ (by first | (simp; done) | omega | (simp; omega)) _)))).mono ?_); rintro e k3 ⟨rfl, b3⟩; have E3 : Below k2.heap.size k2 k3 := below_via b3 (by repeat (first | assumption | exact Below.refl _ _ | refine Below.alloc ?_ (by first | (simp; done) | omega | (simp; omega)) _ | refine Below.drew ?_ | refine Below.setCell ?_ (by first | (simp; done) | omega | (simp; omega)) _)) (by first | (simp; done) | omega | (simp; omega)); have D3 : Below w4.heap.size w4 k3 := D2.trans (E3.mono D2.size); have z3 := E3.size; (first | (have Y := blk_later Y E3) | (have Y := blk_later (heap_new _ _ _ rfl) b3) | skip); (first | (have yy := cells3 Y; obtain ⟨y0, y1, y2, u0, u1, u2⟩ := yy) | skip))))
        all_goals
          go_wp2_with fail
          go_meet
          exact ⟨rfl, rfl, (by repeat (first | assumption | exact Below.refl _ _ | refine Below.alloc ?_ (by first | (simp; done) | omega | (simp; omega)) _ | refine Below.drew ?_ | refine Below.setCell ?_ (by first | (simp; done) | omega | (simp; omega)) _))⟩
      case rest =>
        obtain ⟨rfl, rfl, hb⟩ := hcut
        obtain ⟨w5, rfl⟩ : ∃ x, x = wc := ⟨_, rfl⟩
        have B5 := Lib.hid (B4.out.trans (hb.mono B4.out.size))
        have sz5 := hb.size
        have RX5 := Lib.hid (RX.out.later hb)
        have YA := Lib.hid (blk_later XA.out hb)
        have YX := Lib.hid (blk_later XX.out hb)
        clear hK
        clear xB0 xB1 xB2 xX0
        clear XA XB XX B4 hb RX
        have XA := YA
        have XX := YX
        clear YA YX
        have hne : (r1 != r1) = false := by simp
        have B6 := B5
        have RX6 := RX5
        clear B5 RX5
        obtain ⟨xA0, -⟩ := cells1 XA.out
        obtain ⟨xX0, -⟩ := cells1 XX.out
        go_wp2_with fail
        have hK := Lib.hid (fun K (hb : Below w5.heap.size w5 K) => (⟨(cells1 (blk_later XA.out hb)).1, (cells1 (blk_later XX.out hb)).1⟩ : K.cell? ⟨w.heap.size, 0, none⟩ = some (.slice p0 n0 c0) ∧ K.cell? ⟨w3.heap.size, 0, none⟩ = some (.slice pX n0 cX)))
        have hT := Lib.hid (fun K (hb : Below w5.heap.size w5 K) => toPolicy_v n0 hn0 z0 (.slice p0 n0 c0) K (R0.out.later (B6.out.trans (hb.mono B6.out.size))))
        have D0 : Below w5.heap.size w5 w5 := Below.refl _ _
        go_region_held3 (fun K => K.cell? ⟨w.heap.size, 0, none⟩ = some (.slice p0 n0 c0) ∧ K.cell? ⟨w3.heap.size, 0, none⟩ = some (.slice pX n0 cX))
          (first | exact hK.out _ (by repeat (first | assumption | exact Below.refl _ _ | refine Below.alloc ?_ (by first | (simp; done) | omega | (simp; omega)) _ | refine Below.drew ?_ | refine Below.setCell ?_ (by first | (simp; done) | omega | (simp; omega)) _)) | go_keep)
          (first
            | (go_at_call 17; ((with_reducible refine (hT.out _ (by repeat (first | assumption | exact Below.refl _ _ | refine Below.alloc ?_ (by first | (simp; done) | omega | (simp; omega)) _ | refine Below.drew ?_ | refine Below.setCell ?_ (by first | (simp; done) | omega | (simp; omega)) _))).mono ?_); rintro e k1 ⟨p1, c1, rfl, q1, b1⟩; have D1 : Below w5.heap.size w5 k1 := below_via b1 (by repeat (first | assumption | exact Below.refl _ _ | refine Below.alloc ?_ (by first | (simp; done) | omega | (simp; omega)) _ | refine Below.drew ?_ | refine Below.setCell ?_ (by first | (simp; done) | omega | (simp; omega)) _)) (by first | (simp; done) | omega | (simp; omega)); have z1 := D1.size; have Q1 := q1.rd (Nat.le_refl _)))
            | (go_at_call 19; ((with_reducible refine (eqPolicy_v n0 hn0 z0 _ _ _ (RX6.out.later D1) Q1).mono ?_); rintro e k3 ⟨rfl, b3⟩; have D3 : Below w5.heap.size w5 k3 := below_via b3 (by repeat (first | assumption | exact Below.refl _ _ | refine Below.alloc ?_ (by first | (simp; done) | omega | (simp; omega)) _ | refine Below.drew ?_ | refine Below.setCell ?_ (by first | (simp; done) | omega | (simp; omega)) _)) (by first | (simp; done) | omega | (simp; omega)))))
        all_goals
          go_wp2_with fail
          go_ret
          exact ⟨rfl, B6.out.trans (D3.mono B6.out.size)⟩

/-! The row's step. -/
theorem own : ownKnob Try.prog.godebug = none := by kernel_rfl
theorem laidOut : laidOutB Try.prog = true := by kernel_rfl
set_option maxRecDepth 100000 in
theorem lifted (os : Os) (started : os.Started) (H : Type) (enc : TypeId × Value → H) :
    ReturnsInHanded {} Try.checked os 7 .any (Rows.fnExactHandTimeSpec.pre6 enc Try.prog Try.f7 Rows.fnExactHandTimeRow.domain false) (Rows.fnExactHandTimeSpec.post enc Try.prog Try.f7 false true false false) := by
  refine returnsInHanded_of_change (C := Try.checked) own started (by kernel_rfl) Try.func7
    (ChangeSpec.witness6 (enc := enc) (C := Try.checked) false ⟨#[], #[.agg #[.slice none 0 0], .agg #[.int .i64 0, .int .i64 0, .int .i64 0]], []⟩ 8 (by kernel_rfl) (by kernel_rfl) (by kernel_rfl) (by kernel_rfl)) ?_
  intro W base args ds gs before hval0 hW hcnd _
  have hval : ∀ (j : Nat) t v, Try.f7.params[j]? = some t → args[j]? = some v → Value.okWide Try.prog W .any base t v := hval0
  have hW' := hW
  obtain ⟨p, q, hA0, hV, rfl, hfz, hnd⟩ := hW
  have hA : DataW.TrodAll enc Try.prog W 0 (fun _ => true) true Try.f7.params.toList args.toList ds p := hA0
  rw [Try.params7] at hA hval
  obtain ⟨v0, vs0, d0, ds0, p0, q0, hargs, rfl, rfl, h0, r0⟩ := trodAll_cons hA
  obtain ⟨v1, vs1, d1, ds1, p1, q1, rfl, rfl, rfl, h1, r1⟩ := trodAll_cons r0
  obtain ⟨rfl, rfl, rfl⟩ := trodAll_nil r1
  obtain rfl : args = #[v0, v1] := by cases args; simp_all
  obtain ⟨rfl, rfl⟩ := trodVars_none hV
  have k0 := h0
  have lt0 : ∀ x ∈ p0, x.block < W.heap.size := by obtain ⟨m, hm⟩ := k0; exact DataW.trod_lt m _ _ _ hm
  obtain ⟨cW0, yW0, m0, rfl, hW0⟩ := open_agg1 Try.underlying24 (by kernel_rfl) (show Try.prog.cellsOf 24 = 1 by kernel_rfl) (hval 0 24 v0 rfl rfl) h0
  obtain ⟨ps0, n0, c0, rfl⟩ : ∃ ps n c, cW0 = .slice ps n c := by
    rcases Go.Deep.open_slice Try.underlying22 hW0 with ⟨e, -⟩ | ⟨a, l, c, _, _, _, _, e, -⟩
    · simp at e; exact ⟨_, _, _, e⟩
    · simp at e; exact ⟨_, _, _, e⟩
  obtain ⟨z0, cm0, fl0⟩ := ints_openV ⟨m0, by simpa [Value.cells] using hW0⟩
  have k1 := h1
  have lt1 : ∀ x ∈ p1, x.block < W.heap.size := by obtain ⟨m, hm⟩ := k1; exact DataW.trod_lt m _ _ _ hm
  obtain ⟨cL1, cS1, cV1, yL1, yS1, yV1, m1, rfl, -, -, hL1, hS1, hV1⟩ := Joins.open_agg3 Try.underlying32 (by kernel_rfl) (show Try.prog.cellsOf 32 = 3 by kernel_rfl) (hval 1 32 v1 rfl rfl) h1
  obtain ⟨L1, eL1, -, wL1⟩ := DataW.trod_int Try.underlying3 hL1
  obtain ⟨S1, eS1, -, wS1⟩ := DataW.trod_int Try.underlying3 hS1
  obtain ⟨V1, eV1, -, wV1⟩ := DataW.trod_int Try.underlying3 hV1
  simp only [List.cons.injEq, and_true] at eL1 eS1 eV1
  subst eL1 eS1 eV1
  clear hA0 hval0
  refine (walk ps0 c0 n0 z0 L1 S1 V1 W cm0 fl0 wL1 wS1 wV1).mono fun e W' ⟨he, bel⟩ => ?_
  subst he
  exact ⟨_, rfl, _, _, _, [], _, [], hW', trodAll_mk1 (shut_bool Try.underlying4 _), (trodAll_cons_mk (Below.trod laidOut (by kernel_rfl) (of_decide_eq_true (by kernel_rfl)) k0 bel lt0) (trodAll_cons_mk (Below.trod laidOut (by kernel_rfl) (of_decide_eq_true (by kernel_rfl)) k1 bel lt1) trodAll_mk0)), rfl, bel.frame _, fun h => by cases h⟩

theorem over : Rows.fnExactHandTimeRow.holds Try.pinned (OpenSpec.ofChange Rows.fnExactHandTimeSpec) :=
  OpenClaim.holds_of_wide 7 Try.f7 rfl rfl rfl rfl rfl rfl rfl ⟨rfl, rfl, rfl, rfl, rfl⟩ rfl rfl rfl rfl rfl (by kernel_rfl) Try.func7 (by kernel_rfl)
    (of_decide_eq_true (by kernel_rfl)) (by unfold Func.isWrapper; first | (rw [if_pos (by decide +kernel)]; kernel_rfl) | (rw [if_neg (by decide +kernel)]; exact ⟨rfl, rfl⟩))
    (fun os started H enc _ => lifted os started H enc)

/-- The statement. -/
theorem proved : Rows.FnExactHandTimeSaid := over
#print axioms proved
end Go.Proofs.Ytkdlhapbbnggoaa.fnExactHandTime
