/- For all arguments the exact law of Decide returns true, and the arguments read as before. No condition. -/
import Derived.Test.YtkdlhapbbnggoaaRows
import Derived.Test.YtkdlhapbbnggoaaBlk
import Derived.Test.YtkdlhapbbnggoaaPolLaw
import Derived.Test.YtkdlhapbbnggoaaScrLaw
import Derived.Test.YtkdlhapbbnggoaaDecideI
import Derived.Test.YtkdlhapbbnggoaaDecideS
import Derived.Deep.CutRange
import Derived.Deep.RegionWith
import Derived.Deep.RegionHeld3
import Derived.OpenShut
import Derived.ChangeOld
import Derived.Lib.SmallJoins
namespace Go.Proofs.Ytkdlhapbbnggoaa.fnExactDecide
open Go.ChangeShapes Go.WideShapes Go.ChangeAt Go.RowKit
set_option linter.unusedVariables false

set_option maxRecDepth 100000 in
set_option maxHeartbeats 8000000 in
theorem walk (p0 : Option Addr) (c0 n0 : Nat) (z0 : Nat → Int) (L S V : Int) (a2 : Int) (a3 : Int) (w : World) (m0 : n0 ≤ maxLen) (r0 : Rd w (.slice p0 n0 c0) n0 n0 z0) (wL : (Lit.int .i64 L).wf = true) (wS : (Lit.int .i64 S).wf = true) (wV : (Lit.int .i64 V).wf = true) (wa2 : (Lit.int .i64 a2).wf = true) (wa3 : (Lit.int .i64 a3).wf = true) :
    Calls Try.prog 6 #[.agg #[.slice p0 n0 c0], .agg #[.int .i64 L, .int .i64 S, .int .i64 V], .int .i64 a2, .int .i64 a3] w fun e w' => e = .returned (.bool true) ∧ Below w.heap.size w w' := by
  have BW := Lib.hid (Below.refl w.heap.size w)
  have R0 := Lib.hid r0
  clear r0
  have hsz0 := Lib.hid (fun W (hW : Below w.heap.size w W) => szPolicy_v n0 (.slice p0 n0 c0) 1048576 (by omega) m0 n0 z0 W (R0.out.later hW))
  by_cases hn0 : n0 ≤ 1048576
  rotate_left
  · simp only [if_neg hn0] at hsz0
    go_enter Try.func6, Try.ntmps6
    go_wp2_with fail
    refine (hsz0.out _ (by repeat (first | exact Below.refl _ _ | refine Below.alloc ?_ (by simp <;> omega) _ | refine Below.setCell ?_ (by simp <;> omega) _ | refine Below.drew ?_))).mono ?_
    rintro e wz ⟨rfl, hbz⟩
    have hbz := below_via hbz (B := w.heap.size) (w := w) (by repeat (first | exact Below.refl _ _ | refine Below.alloc ?_ (by simp <;> omega) _ | refine Below.setCell ?_ (by simp <;> omega) _ | refine Below.drew ?_)) (by simp <;> omega)
    go_wp2_with fail
    go_ret
    exact ⟨rfl, hbz⟩
  simp only [if_pos hn0] at hsz0
  obtain ⟨r1, r2, r3, rb, hS, hI⟩ : ∃ (r1 : Int) (r2 : Int) (r3 : Int) (rb : Bool), Hid (∀ (W : World) (v : Value), Rd W v n0 n0 z0 → Calls Try.prog 26 #[.agg #[v], .agg #[.int .i64 L, .int .i64 S, .int .i64 V], .int .i64 a2, .int .i64 a3] W fun e w' => e = .returned (.tuple #[.agg #[.int .i64 r1, .int .i64 r2, .int .i64 r3], .bool rb]) ∧ Below W.heap.size W w') ∧ Hid (∀ (W : World) (v : Value), Rd W v n0 n0 z0 → Calls Try.prog 27 #[.agg #[v], .agg #[.int .i64 L, .int .i64 S, .int .i64 V], .int .i64 a2, .int .i64 a3] W fun e w' => e = .returned (.tuple #[.agg #[.int .i64 r1, .int .i64 r2, .int .i64 r3], .bool rb]) ∧ Below W.heap.size W w') := ⟨deL n0 z0 L S V a2 a3, deS n0 z0 L S V a2 a3, deV n0 z0 L S V a2 a3, deB n0 z0 L S V a2 a3, fun W v h => sDecide_v n0 z0 v L S V a2 a3 W h, fun W v h => iDecide_v n0 z0 v L S V a2 a3 W h⟩
  cases rb
  · skip
    go_enter Try.func6, Try.ntmps6
    go_wp2_with fail
    refine (hsz0.out _ (by repeat (first | exact Below.refl _ _ | refine Below.alloc ?_ (by simp <;> omega) _ | refine Below.setCell ?_ (by simp <;> omega) _ | refine Below.drew ?_))).mono ?_
    rintro e w1 ⟨rfl, hb⟩
    have cc : Below w.heap.size w w1 := below_via hb (by repeat (first | exact Below.refl _ _ | refine Below.alloc ?_ (by simp <;> omega) _ | refine Below.setCell ?_ (by simp <;> omega) _ | refine Below.drew ?_)) (by simp <;> omega)
    have XA : Hid (w1.heap[w.heap.size]? = some (.cells #[.slice p0 n0 c0] 24 (0, 0))) := (hb.block _ (by simp <;> omega)).trans ((heap_old _ _ _ (by simp)).trans (heap_new _ _ _ rfl))
    have XB : Hid (w1.heap[w.heap.size + 1]? = some (.cells #[.int .i64 L, .int .i64 S, .int .i64 V] 32 (0, 0))) := (hb.block _ (by simp <;> omega)).trans (heap_new _ _ _ (by simp))
    have B1 : Hid (Below w.heap.size w w1) := cc
    clear cc hb hsz0 BW
    obtain ⟨xA0, -⟩ := cells1 XA.out
    obtain ⟨xB0, xB1, xB2, -⟩ := cells3 XB.out
    have hK := Lib.hid (fun K (hb : Below w1.heap.size w1 K) => (⟨(cells1 (blk_later XA.out hb)).1, (cells3 (blk_later XB.out hb)).1, (cells3 (blk_later XB.out hb)).2.1, (cells3 (blk_later XB.out hb)).2.2.1⟩ : K.cell? ⟨w.heap.size, 0, none⟩ = some (.slice p0 n0 c0) ∧ K.cell? ⟨w.heap.size + 1, 0, none⟩ = some (.int .i64 L) ∧ K.cell? ⟨w.heap.size + 1, 1, none⟩ = some (.int .i64 S) ∧ K.cell? ⟨w.heap.size + 1, 2, none⟩ = some (.int .i64 V)))
    have hT := Lib.hid (fun K (hb : Below w1.heap.size w1 K) => toPolicy_v n0 hn0 z0 (.slice p0 n0 c0) K (R0.out.later (B1.out.trans (hb.mono B1.out.size))))
    go_upto_region 5 with fail
    go_cut [10, 11] from 10 to 29 (fun s10 s11 wx => ∃ k, s10 = .pointer (some ⟨k, 0, none⟩) ∧ s11 = .bool false ∧ wx.heap[k]? = some (.cells #[.int .i64 r1, .int .i64 r2, .int .i64 r3] 34 (0, 0)) ∧ w1.heap.size ≤ k ∧ Below w1.heap.size w1 wx)
    case first =>
      have D0 : Below w1.heap.size w1 w1 := Below.refl _ _
      go_region_held3 (fun K => K.cell? ⟨w.heap.size, 0, none⟩ = some (.slice p0 n0 c0) ∧ K.cell? ⟨w.heap.size + 1, 0, none⟩ = some (.int .i64 L) ∧ K.cell? ⟨w.heap.size + 1, 1, none⟩ = some (.int .i64 S) ∧ K.cell? ⟨w.heap.size + 1, 2, none⟩ = some (.int .i64 V))
        (first | exact hK.out _ (by repeat (first | assumption | exact Below.refl _ _ | refine Below.alloc ?_ (by first | (simp; done) | omega | (simp; omega)) _ | refine Below.drew ?_ | refine Below.setCell ?_ (by first | (simp; done) | omega | (simp; omega)) _)) | go_keep)
        (first
          | (go_at_call 17; ((with_reducible refine (hT.out _ (by repeat (first | assumption | exact Below.refl _ _ | refine Below.alloc ?_ (by first | (simp; done) | omega | (simp; omega)) _ | refine Below.drew ?_ | refine Below.setCell ?_ (by first | (simp; done) | omega | (simp; omega)) _))).mono ?_); rintro e k1 ⟨p1, c1, rfl, q1, b1⟩; have D1 : Below w1.heap.size w1 k1 := below_via b1 (by repeat (first | assumption | exact Below.refl _ _ | refine Below.alloc ?_ (by first | (simp; done) | omega | (simp; omega)) _ | refine Below.drew ?_ | refine Below.setCell ?_ (by first | (simp; done) | omega | (simp; omega)) _)) (by first | (simp; done) | omega | (simp; omega)); have z1 := D1.size; (first | (have Y := blk_later (heap_new _ _ _ rfl) b1) | (have Y := blk_later (heap_newd _ _) b1) | skip)))
          | (go_at_call 21; ((with_reducible refine (toScreen_any L S V _).mono ?_); rintro e k2 ⟨rfl, b2⟩; have E2 : Below k1.heap.size k1 k2 := below_via b2 (by repeat (first | assumption | exact Below.refl _ _ | refine Below.alloc ?_ (by first | (simp; done) | omega | (simp; omega)) _ | refine Below.drew ?_ | refine Below.setCell ?_ (by first | (simp; done) | omega | (simp; omega)) _)) (by first | (simp; done) | omega | (simp; omega)); have D2 : Below w1.heap.size w1 k2 := D1.trans (E2.mono D1.size); have z2 := E2.size; (first | (have Y := blk_later Y E2) | (have Y := blk_later (heap_new _ _ _ rfl) b2) | skip); have Q2 := (q1.below E2 (Nat.le_refl _)).rd E2.size))
          | (go_at_call 26; ((with_reducible refine (hS.out _ _ (Q2.later (by repeat (first | assumption | exact Below.refl _ _ | refine Below.alloc ?_ (by first | (simp; done) | omega | (simp; omega)) _ | refine Below.drew ?_ | refine Below.setCell ?_ (by first | (simp; done) | omega | (simp; omega)) _)))).mono ?_); rintro e k3 ⟨rfl, b3⟩; have E3 : Below k2.heap.size k2 k3 := below_via b3 (by repeat (first | assumption | exact Below.refl _ _ | refine Below.alloc ?_ (by first | (simp; done) | omega | (simp; omega)) _ | refine Below.drew ?_ | refine Below.setCell ?_ (by first | (simp; done) | omega | (simp; omega)) _)) (by first | (simp; done) | omega | (simp; omega)); have D3 : Below w1.heap.size w1 k3 := D2.trans (E3.mono D2.size); have z3 := E3.size; (first | (have Y := blk_later Y E3) | (have Y := blk_later (heap_new _ _ _ rfl) b3) | skip); (first | (have yy := cells3 Y; obtain ⟨y0, y1, y2, u0, u1, u2⟩ := yy) | skip))))
      all_goals
        go_wp2_with fail
        go_meet
        exact ⟨_, rfl, rfl, (by first | exact heap_new _ _ _ rfl | exact blk_set3 Y _ _ _), (by omega), (by repeat (first | assumption | exact Below.refl _ _ | refine Below.alloc ?_ (by first | (simp; done) | omega | (simp; omega)) _ | refine Below.drew ?_ | refine Below.setCell ?_ (by first | (simp; done) | omega | (simp; omega)) _))⟩
    case rest =>
      obtain ⟨kS, rfl, rfl, xS, zS, hb⟩ := hcut
      obtain ⟨w2, rfl⟩ : ∃ x, x = wc := ⟨_, rfl⟩
      have XS := Lib.hid xS
      clear xS
      have B2 := Lib.hid (B1.out.trans (hb.mono B1.out.size))
      have sz2 := hb.size
      have YA := Lib.hid (blk_later XA.out hb)
      have YB := Lib.hid (blk_later XB.out hb)
      clear hK hT
      clear xA0 xB0 xB1 xB2
      clear XA XB B1 hb
      have XA := YA
      have XB := YB
      clear YA YB
      obtain ⟨xA0, -⟩ := cells1 XA.out
      have hT := Lib.hid (fun K (hb : Below w2.heap.size w2 K) => toPolicy_v n0 hn0 z0 (.slice p0 n0 c0) K (R0.out.later (B2.out.trans (hb.mono B2.out.size))))
      go_wp2_with fail
      refine (hT.out _ (Below.refl _ _)).mono ?_
      rintro e w3 ⟨pX, cX, rfl, qX, hb⟩
      have B3 := Lib.hid (B2.out.trans (hb.mono B2.out.size))
      have sz3 := hb.size
      have QX := Lib.hid qX
      have YA := Lib.hid (blk_later XA.out hb)
      have YB := Lib.hid (blk_later XB.out hb)
      have YS := Lib.hid (blk_later XS.out hb)
      clear hT
      clear xA0
      clear XA XB B2 hb qX XS
      have XA := YA
      have XB := YB
      have XS := YS
      clear YA YB YS
      go_wp2_with fail
      obtain ⟨w4, hw4⟩ : ∃ x, x = w3.alloc (.cells #[.slice pX n0 cX] 27) := ⟨_, rfl⟩
      have b4 : Below w3.heap.size w3 w4 := by rw [hw4]; exact (Below.refl _ _).alloc (Nat.le_refl _) _
      have XX : Hid (w4.heap[w3.heap.size]? = some (.cells #[.slice pX n0 cX] 27 (0, 0))) := by rw [hw4]; exact heap_new _ _ _ rfl
      rw [← hw4]
      have B4 := Lib.hid (B3.out.trans (b4.mono B3.out.size))
      have sz4 := b4.size
      have RX := Lib.hid (((QX.out.below b4 (Nat.le_refl _)).rd b4.size))
      have YA := Lib.hid (blk_later XA.out b4)
      have YB := Lib.hid (blk_later XB.out b4)
      have YS := Lib.hid (blk_later XS.out b4)
      clear XA XB B3 b4 QX hw4 XS
      have XA := YA
      have XB := YB
      have XS := YS
      clear YA YB YS
      obtain ⟨xB0, xB1, xB2, -⟩ := cells3 XB.out
      obtain ⟨xX0, -⟩ := cells1 XX.out
      have hK := Lib.hid (fun K (hb : Below w4.heap.size w4 K) => (⟨(cells3 (blk_later XB.out hb)).1, (cells3 (blk_later XB.out hb)).2.1, (cells3 (blk_later XB.out hb)).2.2.1, (cells1 (blk_later XX.out hb)).1⟩ : K.cell? ⟨w.heap.size + 1, 0, none⟩ = some (.int .i64 L) ∧ K.cell? ⟨w.heap.size + 1, 1, none⟩ = some (.int .i64 S) ∧ K.cell? ⟨w.heap.size + 1, 2, none⟩ = some (.int .i64 V) ∧ K.cell? ⟨w3.heap.size, 0, none⟩ = some (.slice pX n0 cX)))
      go_upto_region 7 with fail
      go_cut [13, 14] from 13 to 40 (fun s13 s14 wx => ∃ k, s13 = .pointer (some ⟨k, 0, none⟩) ∧ s14 = .bool false ∧ wx.heap[k]? = some (.cells #[.int .i64 r1, .int .i64 r2, .int .i64 r3] 34 (0, 0)) ∧ w4.heap.size ≤ k ∧ Below w4.heap.size w4 wx)
      case first =>
        have D0 : Below w4.heap.size w4 w4 := Below.refl _ _
        go_region_held3 (fun K => K.cell? ⟨w.heap.size + 1, 0, none⟩ = some (.int .i64 L) ∧ K.cell? ⟨w.heap.size + 1, 1, none⟩ = some (.int .i64 S) ∧ K.cell? ⟨w.heap.size + 1, 2, none⟩ = some (.int .i64 V) ∧ K.cell? ⟨w3.heap.size, 0, none⟩ = some (.slice pX n0 cX))
          (first | exact hK.out _ (by repeat (first | assumption | exact Below.refl _ _ | refine Below.alloc ?_ (by first | (simp; done) | omega | (simp; omega)) _ | refine Below.drew ?_ | refine Below.setCell ?_ (by first | (simp; done) | omega | (simp; omega)) _)) | go_keep)
          (first
            | (go_at_call 21; ((with_reducible refine (toScreen_any L S V _).mono ?_); rintro e k2 ⟨rfl, b2⟩; have D2 : Below w4.heap.size w4 k2 := below_via b2 (by repeat (first | assumption | exact Below.refl _ _ | refine Below.alloc ?_ (by first | (simp; done) | omega | (simp; omega)) _ | refine Below.drew ?_ | refine Below.setCell ?_ (by first | (simp; done) | omega | (simp; omega)) _)) (by first | (simp; done) | omega | (simp; omega)); have z2 := D2.size; (first | (have Y := blk_later (heap_new _ _ _ rfl) b2) | (have Y := blk_later (heap_newd _ _) b2) | skip)))
            | (go_at_call 27; ((with_reducible refine (hI.out _ _ (RX.out.later (by repeat (first | assumption | exact Below.refl _ _ | refine Below.alloc ?_ (by first | (simp; done) | omega | (simp; omega)) _ | refine Below.drew ?_ | refine Below.setCell ?_ (by first | (simp; done) | omega | (simp; omega)) _)))).mono ?_); rintro e k3 ⟨rfl, b3⟩; have E3 : Below k2.heap.size k2 k3 := below_via b3 (by repeat (first | assumption | exact Below.refl _ _ | refine Below.alloc ?_ (by first | (simp; done) | omega | (simp; omega)) _ | refine Below.drew ?_ | refine Below.setCell ?_ (by first | (simp; done) | omega | (simp; omega)) _)) (by first | (simp; done) | omega | (simp; omega)); have D3 : Below w4.heap.size w4 k3 := D2.trans (E3.mono D2.size); have z3 := E3.size; (first | (have Y := blk_later Y E3) | (have Y := blk_later (heap_new _ _ _ rfl) b3) | skip); (first | (have yy := cells3 Y; obtain ⟨y0, y1, y2, u0, u1, u2⟩ := yy) | skip))))
        all_goals
          go_wp2_with fail
          go_meet
          exact ⟨_, rfl, rfl, (by first | exact heap_new _ _ _ rfl | exact blk_set3 Y _ _ _), (by omega), (by repeat (first | assumption | exact Below.refl _ _ | refine Below.alloc ?_ (by first | (simp; done) | omega | (simp; omega)) _ | refine Below.drew ?_ | refine Below.setCell ?_ (by first | (simp; done) | omega | (simp; omega)) _))⟩
      case rest =>
        obtain ⟨kG, rfl, rfl, xG, zG, hb⟩ := hcut
        obtain ⟨w5, rfl⟩ : ∃ x, x = wc := ⟨_, rfl⟩
        have XG := Lib.hid xG
        clear xG
        have B5 := Lib.hid (B4.out.trans (hb.mono B4.out.size))
        have sz5 := hb.size
        have RX5 := Lib.hid (RX.out.later hb)
        have YA := Lib.hid (blk_later XA.out hb)
        have YX := Lib.hid (blk_later XX.out hb)
        have YS := Lib.hid (blk_later XS.out hb)
        clear hK
        clear xB0 xB1 xB2 xX0
        clear XA XB XX B4 hb RX XS
        have XA := YA
        have XX := YX
        have XS := YS
        clear YA YX YS
        obtain ⟨xS0, xS1, xS2, -⟩ := cells3 XS.out
        obtain ⟨xG0, xG1, xG2, -⟩ := cells3 XG.out
        go_wp2_with fail
        refine (eqScreen_any r1 r2 r3 _).mono ?_
        rintro e w6 ⟨rfl, hb⟩
        have B6 := Lib.hid (B5.out.trans (hb.mono B5.out.size))
        have RX6 := Lib.hid (RX5.out.later hb)
        have YA := Lib.hid (blk_later XA.out hb)
        have YX := Lib.hid (blk_later XX.out hb)
        clear xS0 xS1 xS2 xG0 xG1 xG2
        clear XA XX hb B5 RX5 XS XG
        have XA := YA
        have XX := YX
        clear YA YX
        obtain ⟨xA0, -⟩ := cells1 XA.out
        obtain ⟨xX0, -⟩ := cells1 XX.out
        go_wp2_with fail
        have hK := Lib.hid (fun K (hb : Below w6.heap.size w6 K) => (⟨(cells1 (blk_later XA.out hb)).1, (cells1 (blk_later XX.out hb)).1⟩ : K.cell? ⟨w.heap.size, 0, none⟩ = some (.slice p0 n0 c0) ∧ K.cell? ⟨w3.heap.size, 0, none⟩ = some (.slice pX n0 cX)))
        have hT := Lib.hid (fun K (hb : Below w6.heap.size w6 K) => toPolicy_v n0 hn0 z0 (.slice p0 n0 c0) K (R0.out.later (B6.out.trans (hb.mono B6.out.size))))
        have D0 : Below w6.heap.size w6 w6 := Below.refl _ _
        go_region_held3 (fun K => K.cell? ⟨w.heap.size, 0, none⟩ = some (.slice p0 n0 c0) ∧ K.cell? ⟨w3.heap.size, 0, none⟩ = some (.slice pX n0 cX))
          (first | exact hK.out _ (by repeat (first | assumption | exact Below.refl _ _ | refine Below.alloc ?_ (by first | (simp; done) | omega | (simp; omega)) _ | refine Below.drew ?_ | refine Below.setCell ?_ (by first | (simp; done) | omega | (simp; omega)) _)) | go_keep)
          (first
            | (go_at_call 17; ((with_reducible refine (hT.out _ (by repeat (first | assumption | exact Below.refl _ _ | refine Below.alloc ?_ (by first | (simp; done) | omega | (simp; omega)) _ | refine Below.drew ?_ | refine Below.setCell ?_ (by first | (simp; done) | omega | (simp; omega)) _))).mono ?_); rintro e k1 ⟨p1, c1, rfl, q1, b1⟩; have D1 : Below w6.heap.size w6 k1 := below_via b1 (by repeat (first | assumption | exact Below.refl _ _ | refine Below.alloc ?_ (by first | (simp; done) | omega | (simp; omega)) _ | refine Below.drew ?_ | refine Below.setCell ?_ (by first | (simp; done) | omega | (simp; omega)) _)) (by first | (simp; done) | omega | (simp; omega)); have z1 := D1.size; have Q1 := q1.rd (Nat.le_refl _)))
            | (go_at_call 19; ((with_reducible refine (eqPolicy_v n0 hn0 z0 _ _ _ (RX6.out.later D1) Q1).mono ?_); rintro e k3 ⟨rfl, b3⟩; have D3 : Below w6.heap.size w6 k3 := below_via b3 (by repeat (first | assumption | exact Below.refl _ _ | refine Below.alloc ?_ (by first | (simp; done) | omega | (simp; omega)) _ | refine Below.drew ?_ | refine Below.setCell ?_ (by first | (simp; done) | omega | (simp; omega)) _)) (by first | (simp; done) | omega | (simp; omega)))))
        all_goals
          go_wp2_with fail
          go_ret
          exact ⟨rfl, B6.out.trans (D3.mono B6.out.size)⟩
  · skip
    go_enter Try.func6, Try.ntmps6
    go_wp2_with fail
    refine (hsz0.out _ (by repeat (first | exact Below.refl _ _ | refine Below.alloc ?_ (by simp <;> omega) _ | refine Below.setCell ?_ (by simp <;> omega) _ | refine Below.drew ?_))).mono ?_
    rintro e w1 ⟨rfl, hb⟩
    have cc : Below w.heap.size w w1 := below_via hb (by repeat (first | exact Below.refl _ _ | refine Below.alloc ?_ (by simp <;> omega) _ | refine Below.setCell ?_ (by simp <;> omega) _ | refine Below.drew ?_)) (by simp <;> omega)
    have XA : Hid (w1.heap[w.heap.size]? = some (.cells #[.slice p0 n0 c0] 24 (0, 0))) := (hb.block _ (by simp <;> omega)).trans ((heap_old _ _ _ (by simp)).trans (heap_new _ _ _ rfl))
    have XB : Hid (w1.heap[w.heap.size + 1]? = some (.cells #[.int .i64 L, .int .i64 S, .int .i64 V] 32 (0, 0))) := (hb.block _ (by simp <;> omega)).trans (heap_new _ _ _ (by simp))
    have B1 : Hid (Below w.heap.size w w1) := cc
    clear cc hb hsz0 BW
    obtain ⟨xA0, -⟩ := cells1 XA.out
    obtain ⟨xB0, xB1, xB2, -⟩ := cells3 XB.out
    have hK := Lib.hid (fun K (hb : Below w1.heap.size w1 K) => (⟨(cells1 (blk_later XA.out hb)).1, (cells3 (blk_later XB.out hb)).1, (cells3 (blk_later XB.out hb)).2.1, (cells3 (blk_later XB.out hb)).2.2.1⟩ : K.cell? ⟨w.heap.size, 0, none⟩ = some (.slice p0 n0 c0) ∧ K.cell? ⟨w.heap.size + 1, 0, none⟩ = some (.int .i64 L) ∧ K.cell? ⟨w.heap.size + 1, 1, none⟩ = some (.int .i64 S) ∧ K.cell? ⟨w.heap.size + 1, 2, none⟩ = some (.int .i64 V)))
    have hT := Lib.hid (fun K (hb : Below w1.heap.size w1 K) => toPolicy_v n0 hn0 z0 (.slice p0 n0 c0) K (R0.out.later (B1.out.trans (hb.mono B1.out.size))))
    go_upto_region 5 with fail
    go_cut [10, 11] from 10 to 29 (fun s10 s11 wx => ∃ k, s10 = .pointer (some ⟨k, 0, none⟩) ∧ s11 = .bool true ∧ wx.heap[k]? = some (.cells #[.int .i64 r1, .int .i64 r2, .int .i64 r3] 34 (0, 0)) ∧ w1.heap.size ≤ k ∧ Below w1.heap.size w1 wx)
    case first =>
      have D0 : Below w1.heap.size w1 w1 := Below.refl _ _
      go_region_held3 (fun K => K.cell? ⟨w.heap.size, 0, none⟩ = some (.slice p0 n0 c0) ∧ K.cell? ⟨w.heap.size + 1, 0, none⟩ = some (.int .i64 L) ∧ K.cell? ⟨w.heap.size + 1, 1, none⟩ = some (.int .i64 S) ∧ K.cell? ⟨w.heap.size + 1, 2, none⟩ = some (.int .i64 V))
        (first | exact hK.out _ (by repeat (first | assumption | exact Below.refl _ _ | refine Below.alloc ?_ (by first | (simp; done) | omega | (simp; omega)) _ | refine Below.drew ?_ | refine Below.setCell ?_ (by first | (simp; done) | omega | (simp; omega)) _)) | go_keep)
        (first
          | (go_at_call 17; ((with_reducible refine (hT.out _ (by repeat (first | assumption | exact Below.refl _ _ | refine Below.alloc ?_ (by first | (simp; done) | omega | (simp; omega)) _ | refine Below.drew ?_ | refine Below.setCell ?_ (by first | (simp; done) | omega | (simp; omega)) _))).mono ?_); rintro e k1 ⟨p1, c1, rfl, q1, b1⟩; have D1 : Below w1.heap.size w1 k1 := below_via b1 (by repeat (first | assumption | exact Below.refl _ _ | refine Below.alloc ?_ (by first | (simp; done) | omega | (simp; omega)) _ | refine Below.drew ?_ | refine Below.setCell ?_ (by first | (simp; done) | omega | (simp; omega)) _)) (by first | (simp; done) | omega | (simp; omega)); have z1 := D1.size; (first | (have Y := blk_later (heap_new _ _ _ rfl) b1) | (have Y := blk_later (heap_newd _ _) b1) | skip)))
          | (go_at_call 21; ((with_reducible refine (toScreen_any L S V _).mono ?_); rintro e k2 ⟨rfl, b2⟩; have E2 : Below k1.heap.size k1 k2 := below_via b2 (by repeat (first | assumption | exact Below.refl _ _ | refine Below.alloc ?_ (by first | (simp; done) | omega | (simp; omega)) _ | refine Below.drew ?_ | refine Below.setCell ?_ (by first | (simp; done) | omega | (simp; omega)) _)) (by first | (simp; done) | omega | (simp; omega)); have D2 : Below w1.heap.size w1 k2 := D1.trans (E2.mono D1.size); have z2 := E2.size; (first | (have Y := blk_later Y E2) | (have Y := blk_later (heap_new _ _ _ rfl) b2) | skip); have Q2 := (q1.below E2 (Nat.le_refl _)).rd E2.size))
          | (go_at_call 26; ((with_reducible refine (hS.out _ _ (Q2.later (by repeat (first | assumption | exact Below.refl _ _ | refine Below.alloc ?_ (by first | (simp; done) | omega | (simp; omega)) _ | refine Below.drew ?_ | refine Below.setCell ?_ (by first | (simp; done) | omega | (simp; omega)) _)))).mono ?_); rintro e k3 ⟨rfl, b3⟩; have E3 : Below k2.heap.size k2 k3 := below_via b3 (by repeat (first | assumption | exact Below.refl _ _ | refine Below.alloc ?_ (by first | (simp; done) | omega | (simp; omega)) _ | refine Below.drew ?_ | refine Below.setCell ?_ (by first | (simp; done) | omega | (simp; omega)) _)) (by first | (simp; done) | omega | (simp; omega)); have D3 : Below w1.heap.size w1 k3 := D2.trans (E3.mono D2.size); have z3 := E3.size; (first | (have Y := blk_later Y E3) | (have Y := blk_later (heap_new _ _ _ rfl) b3) | skip); (first | (have yy := cells3 Y; obtain ⟨y0, y1, y2, u0, u1, u2⟩ := yy) | skip))))
      all_goals
        go_wp2_with fail
        go_meet
        exact ⟨_, rfl, rfl, (by first | exact heap_new _ _ _ rfl | exact blk_set3 Y _ _ _), (by omega), (by repeat (first | assumption | exact Below.refl _ _ | refine Below.alloc ?_ (by first | (simp; done) | omega | (simp; omega)) _ | refine Below.drew ?_ | refine Below.setCell ?_ (by first | (simp; done) | omega | (simp; omega)) _))⟩
    case rest =>
      obtain ⟨kS, rfl, rfl, xS, zS, hb⟩ := hcut
      obtain ⟨w2, rfl⟩ : ∃ x, x = wc := ⟨_, rfl⟩
      have XS := Lib.hid xS
      clear xS
      have B2 := Lib.hid (B1.out.trans (hb.mono B1.out.size))
      have sz2 := hb.size
      have YA := Lib.hid (blk_later XA.out hb)
      have YB := Lib.hid (blk_later XB.out hb)
      clear hK hT
      clear xA0 xB0 xB1 xB2
      clear XA XB B1 hb
      have XA := YA
      have XB := YB
      clear YA YB
      obtain ⟨xA0, -⟩ := cells1 XA.out
      have hT := Lib.hid (fun K (hb : Below w2.heap.size w2 K) => toPolicy_v n0 hn0 z0 (.slice p0 n0 c0) K (R0.out.later (B2.out.trans (hb.mono B2.out.size))))
      go_wp2_with fail
      refine (hT.out _ (Below.refl _ _)).mono ?_
      rintro e w3 ⟨pX, cX, rfl, qX, hb⟩
      have B3 := Lib.hid (B2.out.trans (hb.mono B2.out.size))
      have sz3 := hb.size
      have QX := Lib.hid qX
      have YA := Lib.hid (blk_later XA.out hb)
      have YB := Lib.hid (blk_later XB.out hb)
      have YS := Lib.hid (blk_later XS.out hb)
      clear hT
      clear xA0
      clear XA XB B2 hb qX XS
      have XA := YA
      have XB := YB
      have XS := YS
      clear YA YB YS
      go_wp2_with fail
      obtain ⟨w4, hw4⟩ : ∃ x, x = w3.alloc (.cells #[.slice pX n0 cX] 27) := ⟨_, rfl⟩
      have b4 : Below w3.heap.size w3 w4 := by rw [hw4]; exact (Below.refl _ _).alloc (Nat.le_refl _) _
      have XX : Hid (w4.heap[w3.heap.size]? = some (.cells #[.slice pX n0 cX] 27 (0, 0))) := by rw [hw4]; exact heap_new _ _ _ rfl
      rw [← hw4]
      have B4 := Lib.hid (B3.out.trans (b4.mono B3.out.size))
      have sz4 := b4.size
      have RX := Lib.hid (((QX.out.below b4 (Nat.le_refl _)).rd b4.size))
      have YA := Lib.hid (blk_later XA.out b4)
      have YB := Lib.hid (blk_later XB.out b4)
      have YS := Lib.hid (blk_later XS.out b4)
      clear XA XB B3 b4 QX hw4 XS
      have XA := YA
      have XB := YB
      have XS := YS
      clear YA YB YS
      obtain ⟨xB0, xB1, xB2, -⟩ := cells3 XB.out
      obtain ⟨xX0, -⟩ := cells1 XX.out
      have hK := Lib.hid (fun K (hb : Below w4.heap.size w4 K) => (⟨(cells3 (blk_later XB.out hb)).1, (cells3 (blk_later XB.out hb)).2.1, (cells3 (blk_later XB.out hb)).2.2.1, (cells1 (blk_later XX.out hb)).1⟩ : K.cell? ⟨w.heap.size + 1, 0, none⟩ = some (.int .i64 L) ∧ K.cell? ⟨w.heap.size + 1, 1, none⟩ = some (.int .i64 S) ∧ K.cell? ⟨w.heap.size + 1, 2, none⟩ = some (.int .i64 V) ∧ K.cell? ⟨w3.heap.size, 0, none⟩ = some (.slice pX n0 cX)))
      go_upto_region 7 with fail
      go_cut [13, 14] from 13 to 40 (fun s13 s14 wx => ∃ k, s13 = .pointer (some ⟨k, 0, none⟩) ∧ s14 = .bool true ∧ wx.heap[k]? = some (.cells #[.int .i64 r1, .int .i64 r2, .int .i64 r3] 34 (0, 0)) ∧ w4.heap.size ≤ k ∧ Below w4.heap.size w4 wx)
      case first =>
        have D0 : Below w4.heap.size w4 w4 := Below.refl _ _
        go_region_held3 (fun K => K.cell? ⟨w.heap.size + 1, 0, none⟩ = some (.int .i64 L) ∧ K.cell? ⟨w.heap.size + 1, 1, none⟩ = some (.int .i64 S) ∧ K.cell? ⟨w.heap.size + 1, 2, none⟩ = some (.int .i64 V) ∧ K.cell? ⟨w3.heap.size, 0, none⟩ = some (.slice pX n0 cX))
          (first | exact hK.out _ (by repeat (first | assumption | exact Below.refl _ _ | refine Below.alloc ?_ (by first | (simp; done) | omega | (simp; omega)) _ | refine Below.drew ?_ | refine Below.setCell ?_ (by first | (simp; done) | omega | (simp; omega)) _)) | go_keep)
          (first
            | (go_at_call 21; ((with_reducible refine (toScreen_any L S V _).mono ?_); rintro e k2 ⟨rfl, b2⟩; have D2 : Below w4.heap.size w4 k2 := below_via b2 (by repeat (first | assumption | exact Below.refl _ _ | refine Below.alloc ?_ (by first | (simp; done) | omega | (simp; omega)) _ | refine Below.drew ?_ | refine Below.setCell ?_ (by first | (simp; done) | omega | (simp; omega)) _)) (by first | (simp; done) | omega | (simp; omega)); have z2 := D2.size; (first | (have Y := blk_later (heap_new _ _ _ rfl) b2) | (have Y := blk_later (heap_newd _ _) b2) | skip)))
            | (go_at_call 27; ((with_reducible refine (hI.out _ _ (RX.out.later (by repeat (first | assumption | exact Below.refl _ _ | refine Below.alloc ?_ (by first | (simp; done) | omega | (simp; omega)) _ | refine Below.drew ?_ | refine Below.setCell ?_ (by first | (simp; done) | omega | (simp; omega)) _)))).mono ?_); rintro e k3 ⟨rfl, b3⟩; have E3 : Below k2.heap.size k2 k3 := below_via b3 (by repeat (first | assumption | exact Below.refl _ _ | refine Below.alloc ?_ (by first | (simp; done) | omega | (simp; omega)) _ | refine Below.drew ?_ | refine Below.setCell ?_ (by first | (simp; done) | omega | (simp; omega)) _)) (by first | (simp; done) | omega | (simp; omega)); have D3 : Below w4.heap.size w4 k3 := D2.trans (E3.mono D2.size); have z3 := E3.size; (first | (have Y := blk_later Y E3) | (have Y := blk_later (heap_new _ _ _ rfl) b3) | skip); (first | (have yy := cells3 Y; obtain ⟨y0, y1, y2, u0, u1, u2⟩ := yy) | skip))))
        all_goals
          go_wp2_with fail
          go_meet
          exact ⟨_, rfl, rfl, (by first | exact heap_new _ _ _ rfl | exact blk_set3 Y _ _ _), (by omega), (by repeat (first | assumption | exact Below.refl _ _ | refine Below.alloc ?_ (by first | (simp; done) | omega | (simp; omega)) _ | refine Below.drew ?_ | refine Below.setCell ?_ (by first | (simp; done) | omega | (simp; omega)) _))⟩
      case rest =>
        obtain ⟨kG, rfl, rfl, xG, zG, hb⟩ := hcut
        obtain ⟨w5, rfl⟩ : ∃ x, x = wc := ⟨_, rfl⟩
        have XG := Lib.hid xG
        clear xG
        have B5 := Lib.hid (B4.out.trans (hb.mono B4.out.size))
        have sz5 := hb.size
        have RX5 := Lib.hid (RX.out.later hb)
        have YA := Lib.hid (blk_later XA.out hb)
        have YX := Lib.hid (blk_later XX.out hb)
        have YS := Lib.hid (blk_later XS.out hb)
        clear hK
        clear xB0 xB1 xB2 xX0
        clear XA XB XX B4 hb RX XS
        have XA := YA
        have XX := YX
        have XS := YS
        clear YA YX YS
        obtain ⟨xS0, xS1, xS2, -⟩ := cells3 XS.out
        obtain ⟨xG0, xG1, xG2, -⟩ := cells3 XG.out
        go_wp2_with fail
        refine (eqScreen_any r1 r2 r3 _).mono ?_
        rintro e w6 ⟨rfl, hb⟩
        have B6 := Lib.hid (B5.out.trans (hb.mono B5.out.size))
        have RX6 := Lib.hid (RX5.out.later hb)
        have YA := Lib.hid (blk_later XA.out hb)
        have YX := Lib.hid (blk_later XX.out hb)
        clear xS0 xS1 xS2 xG0 xG1 xG2
        clear XA XX hb B5 RX5 XS XG
        have XA := YA
        have XX := YX
        clear YA YX
        obtain ⟨xA0, -⟩ := cells1 XA.out
        obtain ⟨xX0, -⟩ := cells1 XX.out
        go_wp2_with fail
        have hK := Lib.hid (fun K (hb : Below w6.heap.size w6 K) => (⟨(cells1 (blk_later XA.out hb)).1, (cells1 (blk_later XX.out hb)).1⟩ : K.cell? ⟨w.heap.size, 0, none⟩ = some (.slice p0 n0 c0) ∧ K.cell? ⟨w3.heap.size, 0, none⟩ = some (.slice pX n0 cX)))
        have hT := Lib.hid (fun K (hb : Below w6.heap.size w6 K) => toPolicy_v n0 hn0 z0 (.slice p0 n0 c0) K (R0.out.later (B6.out.trans (hb.mono B6.out.size))))
        have D0 : Below w6.heap.size w6 w6 := Below.refl _ _
        go_region_held3 (fun K => K.cell? ⟨w.heap.size, 0, none⟩ = some (.slice p0 n0 c0) ∧ K.cell? ⟨w3.heap.size, 0, none⟩ = some (.slice pX n0 cX))
          (first | exact hK.out _ (by repeat (first | assumption | exact Below.refl _ _ | refine Below.alloc ?_ (by first | (simp; done) | omega | (simp; omega)) _ | refine Below.drew ?_ | refine Below.setCell ?_ (by first | (simp; done) | omega | (simp; omega)) _)) | go_keep)
          (first
            | (go_at_call 17; ((with_reducible refine (hT.out _ (by repeat (first | assumption | exact Below.refl _ _ | refine Below.alloc ?_ (by first | (simp; done) | omega | (simp; omega)) _ | refine Below.drew ?_ | refine Below.setCell ?_ (by first | (simp; done) | omega | (simp; omega)) _))).mono ?_); rintro e k1 ⟨p1, c1, rfl, q1, b1⟩; have D1 : Below w6.heap.size w6 k1 := below_via b1 (by repeat (first | assumption | exact Below.refl _ _ | refine Below.alloc ?_ (by first | (simp; done) | omega | (simp; omega)) _ | refine Below.drew ?_ | refine Below.setCell ?_ (by first | (simp; done) | omega | (simp; omega)) _)) (by first | (simp; done) | omega | (simp; omega)); have z1 := D1.size; have Q1 := q1.rd (Nat.le_refl _)))
            | (go_at_call 19; ((with_reducible refine (eqPolicy_v n0 hn0 z0 _ _ _ (RX6.out.later D1) Q1).mono ?_); rintro e k3 ⟨rfl, b3⟩; have D3 : Below w6.heap.size w6 k3 := below_via b3 (by repeat (first | assumption | exact Below.refl _ _ | refine Below.alloc ?_ (by first | (simp; done) | omega | (simp; omega)) _ | refine Below.drew ?_ | refine Below.setCell ?_ (by first | (simp; done) | omega | (simp; omega)) _)) (by first | (simp; done) | omega | (simp; omega)))))
        all_goals
          go_wp2_with fail
          go_ret
          exact ⟨rfl, B6.out.trans (D3.mono B6.out.size)⟩

/-! The row's step. -/
theorem own : ownKnob Try.prog.godebug = none := by kernel_rfl
theorem laidOut : laidOutB Try.prog = true := by kernel_rfl
set_option maxRecDepth 100000 in
theorem lifted (os : Os) (started : os.Started) (H : Type) (enc : TypeId × Value → H) :
    ReturnsInHanded {} Try.checked os 6 .any (Rows.fnExactDecideSpec.pre6 enc Try.prog Try.f6 Rows.fnExactDecideRow.domain false) (Rows.fnExactDecideSpec.post enc Try.prog Try.f6 false true false false) := by
  refine returnsInHanded_of_change (C := Try.checked) own started (by kernel_rfl) Try.func6
    (ChangeSpec.witness6 (enc := enc) (C := Try.checked) false ⟨#[], #[.agg #[.slice none 0 0], .agg #[.int .i64 0, .int .i64 0, .int .i64 0], .int .i64 0, .int .i64 0], []⟩ 8 (by kernel_rfl) (by kernel_rfl) (by kernel_rfl) (by kernel_rfl)) ?_
  intro W base args ds gs before hval0 hW hcnd _
  have hval : ∀ (j : Nat) t v, Try.f6.params[j]? = some t → args[j]? = some v → Value.okWide Try.prog W .any base t v := hval0
  have hW' := hW
  obtain ⟨p, q, hA0, hV, rfl, hfz, hnd⟩ := hW
  have hA : DataW.TrodAll enc Try.prog W 0 (fun _ => true) true Try.f6.params.toList args.toList ds p := hA0
  rw [Try.params6] at hA hval
  obtain ⟨v0, vs0, d0, ds0, p0, q0, hargs, rfl, rfl, h0, r0⟩ := trodAll_cons hA
  obtain ⟨v1, vs1, d1, ds1, p1, q1, rfl, rfl, rfl, h1, r1⟩ := trodAll_cons r0
  obtain ⟨v2, vs2, d2, ds2, p2, q2, rfl, rfl, rfl, h2, r2⟩ := trodAll_cons r1
  obtain ⟨v3, vs3, d3, ds3, p3, q3, rfl, rfl, rfl, h3, r3⟩ := trodAll_cons r2
  obtain ⟨rfl, rfl, rfl⟩ := trodAll_nil r3
  obtain rfl : args = #[v0, v1, v2, v3] := by cases args; simp_all
  obtain ⟨rfl, rfl⟩ := trodVars_none hV
  have k0 := h0
  have lt0 : ∀ x ∈ p0, x.block < W.heap.size := by obtain ⟨m, hm⟩ := k0; exact DataW.trod_lt m _ _ _ hm
  obtain ⟨cW0, yW0, m0, rfl, hW0⟩ := open_agg1 Try.underlying24 (by kernel_rfl) (show Try.prog.cellsOf 24 = 1 by kernel_rfl) (hval 0 24 v0 rfl rfl) h0
  obtain ⟨ps0, n0, c0, rfl⟩ : ∃ ps n c, cW0 = .slice ps n c := by
    rcases Go.Deep.open_slice Try.underlying22 hW0 with ⟨e, -⟩ | ⟨a, l, c, _, _, _, _, e, -⟩
    · simp at e; exact ⟨_, _, _, e⟩
    · simp at e; exact ⟨_, _, _, e⟩
  obtain ⟨z0, cm0, fl0⟩ := ints_openV ⟨m0, by simpa [Value.cells] using hW0⟩
  have k1 := h1
  have lt1 : ∀ x ∈ p1, x.block < W.heap.size := by obtain ⟨m, hm⟩ := k1; exact DataW.trod_lt m _ _ _ hm
  obtain ⟨cL1, cS1, cV1, yL1, yS1, yV1, m1, rfl, -, -, hL1, hS1, hV1⟩ := Joins.open_agg3 Try.underlying32 (by kernel_rfl) (show Try.prog.cellsOf 32 = 3 by kernel_rfl) (hval 1 32 v1 rfl rfl) h1
  obtain ⟨L1, eL1, -, wL1⟩ := DataW.trod_int Try.underlying3 hL1
  obtain ⟨S1, eS1, -, wS1⟩ := DataW.trod_int Try.underlying3 hS1
  obtain ⟨V1, eV1, -, wV1⟩ := DataW.trod_int Try.underlying3 hV1
  simp only [List.cons.injEq, and_true] at eL1 eS1 eV1
  subst eL1 eS1 eV1
  have k2 := h2
  have lt2 : ∀ x ∈ p2, x.block < W.heap.size := by obtain ⟨m, hm⟩ := k2; exact DataW.trod_lt m _ _ _ hm
  obtain ⟨a2, rfl, -, -, w2⟩ := open_int Try.underlying3 (hval 2 3 v2 rfl rfl) h2
  have k3 := h3
  have lt3 : ∀ x ∈ p3, x.block < W.heap.size := by obtain ⟨m, hm⟩ := k3; exact DataW.trod_lt m _ _ _ hm
  obtain ⟨a3, rfl, -, -, w3⟩ := open_int Try.underlying3 (hval 3 3 v3 rfl rfl) h3
  clear hA0 hval0
  refine (walk ps0 c0 n0 z0 L1 S1 V1 a2 a3 W cm0 fl0 wL1 wS1 wV1 w2 w3).mono fun e W' ⟨he, bel⟩ => ?_
  subst he
  exact ⟨_, rfl, _, _, _, [], _, [], hW', trodAll_mk1 (shut_bool Try.underlying4 _), (trodAll_cons_mk (Below.trod laidOut (by kernel_rfl) (of_decide_eq_true (by kernel_rfl)) k0 bel lt0) (trodAll_cons_mk (Below.trod laidOut (by kernel_rfl) (of_decide_eq_true (by kernel_rfl)) k1 bel lt1) (trodAll_cons_mk (Below.trod laidOut (by kernel_rfl) (of_decide_eq_true (by kernel_rfl)) k2 bel lt2) (trodAll_cons_mk (Below.trod laidOut (by kernel_rfl) (of_decide_eq_true (by kernel_rfl)) k3 bel lt3) trodAll_mk0)))), rfl, bel.frame _, fun h => by cases h⟩

theorem over : Rows.fnExactDecideRow.holds Try.pinned (OpenSpec.ofChange Rows.fnExactDecideSpec) :=
  OpenClaim.holds_of_wide 6 Try.f6 rfl rfl rfl rfl rfl rfl rfl ⟨rfl, rfl, rfl, rfl, rfl⟩ rfl rfl rfl rfl rfl (by kernel_rfl) Try.func6 (by kernel_rfl)
    (of_decide_eq_true (by kernel_rfl)) (by unfold Func.isWrapper; first | (rw [if_pos (by decide +kernel)]; kernel_rfl) | (rw [if_neg (by decide +kernel)]; exact ⟨rfl, rfl⟩))
    (fun os started H enc _ => lifted os started H enc)

/-- The statement. -/
theorem proved : Rows.FnExactDecideSaid := over
#print axioms proved
end Go.Proofs.Ytkdlhapbbnggoaa.fnExactDecide
