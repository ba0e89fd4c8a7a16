/- For all arguments the exact law of PolicyOk returns true, and the arguments read as before. No condition. -/
import Derived.Test.YtkdlhapbbnggoaaRows
import Derived.Test.YtkdlhapbbnggoaaBlk
import Derived.Test.YtkdlhapbbnggoaaPolLaw
import Derived.Test.YtkdlhapbbnggoaaElapse0
import Derived.Deep.CutRange
import Derived.Deep.RegionWith
import Derived.Deep.RegionHeld3
import Derived.OpenShut
import Derived.ChangeOld
import Derived.Lib.SmallJoins
namespace Go.Proofs.Ytkdlhapbbnggoaa.fnExactPolicyOk
open Go.ChangeShapes Go.WideShapes Go.ChangeAt Go.RowKit
set_option linter.unusedVariables false

set_option maxRecDepth 100000 in
set_option maxHeartbeats 8000000 in
theorem walk (p0 : Option Addr) (c0 n0 : Nat) (z0 : Nat → Int) (w : World) (m0 : n0 ≤ maxLen) (r0 : Rd w (.slice p0 n0 c0) n0 n0 z0) :
    Calls Try.prog 3 #[.agg #[.slice p0 n0 c0]] w fun e w' => e = .returned (.bool true) ∧ Below w.heap.size w w' := by
  have R0 := Lib.hid r0
  clear r0
  have hsz0 := Lib.hid (fun W (hW : Below w.heap.size w W) => szPolicy_v n0 (.slice p0 n0 c0) 1048576 (by omega) m0 n0 z0 W (R0.out.later hW))
  by_cases hn0 : n0 ≤ 1048576
  rotate_left
  · simp only [if_neg hn0] at hsz0
    go_enter Try.func3, Try.ntmps3
    go_wp2_with fail
    refine (hsz0.out _ (by repeat (first | exact Below.refl _ _ | refine Below.alloc ?_ (by simp <;> omega) _ | refine Below.setCell ?_ (by simp <;> omega) _ | refine Below.drew ?_))).mono ?_
    rintro e wz ⟨rfl, hbz⟩
    have hbz := below_via hbz (B := w.heap.size) (w := w) (by repeat (first | exact Below.refl _ _ | refine Below.alloc ?_ (by simp <;> omega) _ | refine Below.setCell ?_ (by simp <;> omega) _ | refine Below.drew ?_)) (by simp <;> omega)
    go_wp2_with fail
    go_ret
    exact ⟨rfl, hbz⟩
  simp only [if_pos hn0] at hsz0
  obtain ⟨rb, hrb⟩ : ∃ r, poB n0 z0 = r := ⟨_, rfl⟩
  have hto := Lib.hid (fun W (hW : Below w.heap.size w W) => toPolicy_v n0 hn0 z0 (.slice p0 n0 c0) W (R0.out.later hW))
  cases rb
  all_goals
    go_enter Try.func3, Try.ntmps3
    go_wp2_with fail
    refine (hsz0.out _ (by repeat (first | exact Below.refl _ _ | refine Below.alloc ?_ (by simp <;> omega) _ | refine Below.setCell ?_ (by simp <;> omega) _ | refine Below.drew ?_))).mono ?_
    rintro e w1 ⟨rfl, hb⟩
    have B1 : Hid (Below w.heap.size w w1) := below_via hb (by repeat (first | exact Below.refl _ _ | refine Below.alloc ?_ (by simp <;> omega) _ | refine Below.setCell ?_ (by simp <;> omega) _ | refine Below.drew ?_)) (by simp <;> omega)
    have XA : Hid (w1.heap[w.heap.size]? = some (.cells #[.slice p0 n0 c0] 24 (0, 0))) := (hb.block _ (by simp <;> omega)).trans (heap_new _ _ _ rfl)
    clear hb
    obtain ⟨xA0, -⟩ := cells1 XA.out
    go_wp2_with fail
    refine (hto.out _ B1.out).mono ?_
    rintro e w2 ⟨p1, c1, rfl, q1, hb⟩
    have B2 := Lib.hid (B1.out.trans (hb.mono B1.out.size))
    have YA := Lib.hid (blk_later XA.out hb)
    have R1 := Lib.hid (q1.rd (Nat.le_refl _))
    clear xA0 XA hb q1
    go_wp2_with fail
    refine (sPolicyOk_v hrb R1.out).mono ?_
    rintro e w3 ⟨rfl, hb⟩
    have B3 := Lib.hid (B2.out.trans (hb.mono B2.out.size))
    have XA := Lib.hid (blk_later YA.out hb)
    clear YA hb R1
    obtain ⟨xA0, -⟩ := cells1 XA.out
    go_wp2_with fail
    refine (hto.out _ B3.out).mono ?_
    rintro e w4 ⟨pX, cX, rfl, qX, hb⟩
    have B4 := Lib.hid (B3.out.trans (hb.mono B3.out.size))
    have YA := Lib.hid (blk_later XA.out hb)
    have RX := Lib.hid (qX.rd (Nat.le_refl _))
    clear xA0 XA hb qX
    go_wp2_with fail
    obtain ⟨w5, hw5⟩ : ∃ x, x = w4.alloc (.cells #[.slice pX n0 cX] 27) := ⟨_, rfl⟩
    have b5 : Below w4.heap.size w4 w5 := by rw [hw5]; exact (Below.refl _ _).alloc (Nat.le_refl _) _
    have XX : Hid (w5.heap[w4.heap.size]? = some (.cells #[.slice pX n0 cX] 27 (0, 0))) := by rw [hw5]; exact heap_new _ _ _ rfl
    rw [← hw5]
    have B5 := Lib.hid (B4.out.trans (b5.mono B4.out.size))
    have XA := Lib.hid (blk_later YA.out b5)
    have RX5 := Lib.hid (RX.out.later b5)
    clear hw5 b5 YA RX
    refine (iPolicyOk_v hrb RX5.out).mono ?_
    rintro e w6 ⟨rfl, hb⟩
    have B6 := Lib.hid (B5.out.trans (hb.mono B5.out.size))
    have YA := Lib.hid (blk_later XA.out hb)
    have YX := Lib.hid (blk_later XX.out hb)
    have RX6 := Lib.hid (RX5.out.later hb)
    clear hb XA XX RX5
    obtain ⟨xA0, -⟩ := cells1 YA.out
    obtain ⟨xX0, -⟩ := cells1 YX.out
    go_wp2_with fail
    have hK := Lib.hid (fun K (hb : Below w6.heap.size w6 K) => (⟨(cells1 (blk_later YA.out hb)).1, (cells1 (blk_later YX.out hb)).1⟩ : K.cell? ⟨w.heap.size, 0, none⟩ = some (.slice p0 n0 c0) ∧ K.cell? ⟨w4.heap.size, 0, none⟩ = some (.slice pX n0 cX)))
    have D0 : Below w6.heap.size w6 w6 := Below.refl _ _
    have hT := Lib.hid (fun K (hb : Below w6.heap.size w6 K) => hto.out K (B6.out.trans (hb.mono B6.out.size)))
    go_region_held3 (fun K => K.cell? ⟨w.heap.size, 0, none⟩ = some (.slice p0 n0 c0) ∧ K.cell? ⟨w4.heap.size, 0, none⟩ = some (.slice pX n0 cX))
      (first | exact hK.out _ (by repeat (first | assumption | exact Below.refl _ _ | refine Below.alloc ?_ (by first | (simp; done) | omega | (simp; omega)) _ | refine Below.drew ?_ | refine Below.setCell ?_ (by first | (simp; done) | omega | (simp; omega)) _)) | go_keep)
      (first
        | (go_at_call 17; ((with_reducible refine (hT.out _ (by repeat (first | assumption | exact Below.refl _ _ | refine Below.alloc ?_ (by first | (simp; done) | omega | (simp; omega)) _ | refine Below.drew ?_ | refine Below.setCell ?_ (by first | (simp; done) | omega | (simp; omega)) _))).mono ?_); rintro e k1 ⟨p1, c1, rfl, q1, b1⟩; have D1 : Below w6.heap.size w6 k1 := below_via b1 (by repeat (first | assumption | exact Below.refl _ _ | refine Below.alloc ?_ (by first | (simp; done) | omega | (simp; omega)) _ | refine Below.drew ?_ | refine Below.setCell ?_ (by first | (simp; done) | omega | (simp; omega)) _)) (by first | (simp; done) | omega | (simp; omega)); have z1 := D1.size; have Q1 := q1.rd (Nat.le_refl _)))
        | (go_at_call 19; ((with_reducible refine (eqPolicy_v n0 hn0 z0 _ _ _ (RX6.out.later D1) Q1).mono ?_); rintro e k3 ⟨rfl, b3⟩; have D3 : Below w6.heap.size w6 k3 := below_via b3 (by repeat (first | assumption | exact Below.refl _ _ | refine Below.alloc ?_ (by first | (simp; done) | omega | (simp; omega)) _ | refine Below.drew ?_ | refine Below.setCell ?_ (by first | (simp; done) | omega | (simp; omega)) _)) (by first | (simp; done) | omega | (simp; omega)))))
    all_goals
      go_wp2_with fail
      go_ret
      exact ⟨rfl, B6.out.trans (D3.mono B6.out.size)⟩

/-! The row's step. -/
theorem own : ownKnob Try.prog.godebug = none := by kernel_rfl
theorem laidOut : laidOutB Try.prog = true := by kernel_rfl
set_option maxRecDepth 100000 in
theorem lifted (os : Os) (started : os.Started) (H : Type) (enc : TypeId × Value → H) :
    ReturnsInHanded {} Try.checked os 3 .any (Rows.fnExactPolicyOkSpec.pre6 enc Try.prog Try.f3 Rows.fnExactPolicyOkRow.domain false) (Rows.fnExactPolicyOkSpec.post enc Try.prog Try.f3 false true false false) := by
  refine returnsInHanded_of_change (C := Try.checked) own started (by kernel_rfl) Try.func3
    (ChangeSpec.witness6 (enc := enc) (C := Try.checked) false ⟨#[], #[.agg #[.slice none 0 0]], []⟩ 8 (by kernel_rfl) (by kernel_rfl) (by kernel_rfl) (by kernel_rfl)) ?_
  intro W base args ds gs before hval0 hW hcnd _
  have hval : ∀ (j : Nat) t v, Try.f3.params[j]? = some t → args[j]? = some v → Value.okWide Try.prog W .any base t v := hval0
  have hW' := hW
  obtain ⟨p, q, hA0, hV, rfl, hfz, hnd⟩ := hW
  have hA : DataW.TrodAll enc Try.prog W 0 (fun _ => true) true Try.f3.params.toList args.toList ds p := hA0
  rw [Try.params3] at hA hval
  obtain ⟨v0, vs0, d0, ds0, p0, q0, hargs, rfl, rfl, h0, r0⟩ := trodAll_cons hA
  obtain ⟨rfl, rfl, rfl⟩ := trodAll_nil r0
  obtain rfl : args = #[v0] := by cases args; simp_all
  obtain ⟨rfl, rfl⟩ := trodVars_none hV
  have k0 := h0
  have lt0 : ∀ x ∈ p0, x.block < W.heap.size := by obtain ⟨m, hm⟩ := k0; exact DataW.trod_lt m _ _ _ hm
  obtain ⟨cW0, yW0, m0, rfl, hW0⟩ := open_agg1 Try.underlying24 (by kernel_rfl) (show Try.prog.cellsOf 24 = 1 by kernel_rfl) (hval 0 24 v0 rfl rfl) h0
  obtain ⟨ps0, n0, c0, rfl⟩ : ∃ ps n c, cW0 = .slice ps n c := by
    rcases Go.Deep.open_slice Try.underlying22 hW0 with ⟨e, -⟩ | ⟨a, l, c, _, _, _, _, e, -⟩
    · simp at e; exact ⟨_, _, _, e⟩
    · simp at e; exact ⟨_, _, _, e⟩
  obtain ⟨z0, cm0, fl0⟩ := ints_openV ⟨m0, by simpa [Value.cells] using hW0⟩
  clear hA0 hval0
  refine (walk ps0 c0 n0 z0 W cm0 fl0).mono fun e W' ⟨he, bel⟩ => ?_
  subst he
  exact ⟨_, rfl, _, _, _, [], _, [], hW', trodAll_mk1 (shut_bool Try.underlying4 _), (trodAll_cons_mk (Below.trod laidOut (by kernel_rfl) (of_decide_eq_true (by kernel_rfl)) k0 bel lt0) trodAll_mk0), rfl, bel.frame _, fun h => by cases h⟩

theorem over : Rows.fnExactPolicyOkRow.holds Try.pinned (OpenSpec.ofChange Rows.fnExactPolicyOkSpec) :=
  OpenClaim.holds_of_wide 3 Try.f3 rfl rfl rfl rfl rfl rfl rfl ⟨rfl, rfl, rfl, rfl, rfl⟩ rfl rfl rfl rfl rfl (by kernel_rfl) Try.func3 (by kernel_rfl)
    (of_decide_eq_true (by kernel_rfl)) (by unfold Func.isWrapper; first | (rw [if_pos (by decide +kernel)]; kernel_rfl) | (rw [if_neg (by decide +kernel)]; exact ⟨rfl, rfl⟩))
    (fun os started H enc _ => lifted os started H enc)

/-- The statement. -/
theorem proved : Rows.FnExactPolicyOkSaid := over
#print axioms proved
end Go.Proofs.Ytkdlhapbbnggoaa.fnExactPolicyOk
