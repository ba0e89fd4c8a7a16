/- For all arguments the exact law of TrayAt returns true, and the arguments read as before. No condition. -/
import Derived.Test.YtokhkcebdbopcabRows
import Derived.Test.YtokhkcebdbopcabLoopLaw
import Derived.Test.YtokhkcebdbopcabLoopOkS
import Derived.Test.YtokhkcebdbopcabLoopOkJ
import Derived.Test.YtokhkcebdbopcabTrayPlain
import Derived.Deep.CutRange
import Derived.Deep.RegionWith
import Derived.OpenShut
import Derived.ChangeOld
import Derived.Lib.SmallJoins
namespace Go.Proofs.Ytokhkcebdbopcab.fnExactTrayAt
open Go.ChangeShapes Go.WideShapes Go.ChangeAt Go.RowKit Go.Deep
set_option linter.unusedVariables false

set_option maxRecDepth 100000 in
set_option maxHeartbeats 4000000 in
theorem walk (T : Int) (p1 p2 p3 : Option Addr) (c1 c2 c3 n1 n2 n3 : Nat) (x a2 a3 : Nat → Int) (m2 m3 : Nat → Nat) (y2 y3 : Nat → Nat → Int) (a1 : Int) (w : World) (hn1 : n1 ≤ maxLen) (hn2 : n2 ≤ maxLen) (hn3 : n3 ≤ maxLen) (hx2 : ∀ i, i < n2 → m2 i ≤ maxLen) (hx3 : ∀ i, i < n3 → m3 i ≤ maxLen) (r1 : Rd w (.slice p1 n1 c1) n1 n1 x) (r2 : NRd w (.slice p2 n2 c2) n2 2 a2 m2 y2) (r3 : NRd w (.slice p3 n3 c3) n3 1 a3 m3 y3) (wx : ∀ j, j < n1 → (Lit.int .i64 (x j)).wf = true) (w2 : ∀ i, i < n2 → ∀ r, r < 2 → (Lit.int .i64 (a2 (i * 3 + r))).wf = true) (wy : ∀ i, i < n2 → ∀ j, j < m2 i → (Lit.int .i64 (y2 i j)).wf = true) (w3 : ∀ i, i < n3 → ∀ r, r < 1 → (Lit.int .i64 (a3 (i * 2 + r))).wf = true) (wz : ∀ i, i < n3 → ∀ j, j < m3 i → (Lit.int .i64 (y3 i j)).wf = true) (wT : (Lit.int .i64 T).wf = true) (wa1 : (Lit.int .i64 a1).wf = true) :
    Calls Try.prog 4 #[.agg #[.slice p1 n1 c1, .int .i64 T, .slice p2 n2 c2, .slice p3 n3 c3], .int .i64 a1] w fun e w' => e = .returned (.bool true) ∧ Below w.heap.size w w' := by
  have hsz := Lib.hid (fun W (hW : Below w.heap.size w W) => szLoop_any T p1 p2 p3 c1 c2 c3 n1 n2 n3 1048576 (by omega) hn1 hn2 hn3 x a2 a3 m2 m3 y2 y3 hx2 hx3 W (r1.later hW) (r2.later hW) (r3.later hW))
  by_cases hN : n1 + (n2 + totN m2 n2) + (n3 + totN m3 n3) ≤ 1048576
  rotate_left
  · simp only [if_neg hN] at hsz
    go_enter Try.func4, Try.ntmps4
    go_wp2_with (go_at_call 15; refine (hsz.out _ (by repeat (first | exact Below.refl _ _ | refine Below.alloc ?_ (by simp <;> omega) _ | refine Below.drew ?_))).mono ?_; rintro e w2 ⟨rfl, hb2⟩)
    go_ret
    exact ⟨rfl, below_via hb2 (by repeat (first | exact Below.refl _ _ | refine Below.alloc ?_ (by simp <;> omega) _ | refine Below.drew ?_)) (by simp)⟩
  simp only [if_pos hN] at hsz
  have h1 : n1 ≤ 1048576 := by omega
  have h2 : n2 ≤ 1048576 := by omega
  have h3 : n3 ≤ 1048576 := by omega
  have ht : n1 + totN m2 n2 ≤ 1048576 := by omega
  have hm2 : ∀ i, i < n2 → m2 i ≤ 1048576 := fun i hi => by have := totN_one (nn := m2) hi; omega
  have hm3 : ∀ i, i < n3 → m3 i ≤ 1048576 := fun i hi => by have := totN_one (nn := m3) hi; omega
  have wA : ∀ i, i < n2 → (Lit.int .i64 (a2 (i * 3))).wf = true := fun i hi => w2 i hi 0 (by omega)
  have wB : ∀ i, i < n3 → (Lit.int .i64 (a3 (i * 2))).wf = true := fun i hi => w3 i hi 0 (by omega)
  obtain ⟨I0, hS, hI⟩ : ∃ (I0 : Int), Hid (∀ (W : World) (p1 p2 p3 : Option Addr) (c1 c2 c3 : Nat), LpRs W p1 p2 p3 c1 c2 c3 n1 n2 n3 x a2 a3 m2 m3 y2 y3 → Calls Try.prog 20 #[.agg #[.slice p1 n1 c1, .int .i64 T, .slice p2 n2 c2, .slice p3 n3 c3], .int .i64 a1] W fun e w' => e = .returned (.int .i64 I0) ∧ Below W.heap.size W w') ∧ Hid (∀ (W : World) (p1 p2 p3 : Option Addr) (c1 c2 c3 : Nat), LpRs W p1 p2 p3 c1 c2 c3 n1 n2 n3 x a2 a3 m2 m3 y2 y3 → Calls Try.prog 21 #[.agg #[.slice p1 n1 c1, .int .i64 T, .slice p2 n2 c2, .slice p3 n3 c3], .int .i64 a1] W fun e w' => e = .returned (.int .i64 I0) ∧ Below W.heap.size W w') := ⟨trA (decide (lpO T n1 n2 n3 x a2 a3 m2 m3 y2 y3)) T a1 n1, fun W p1 p2 p3 c1 c2 c3 hr => sTrayAt_any T a1 p1 p2 p3 c1 c2 c3 n1 n2 n3 (by omega) (decide (lpO T n1 n2 n3 x a2 a3 m2 m3 y2 y3)) (fun h => (of_decide_eq_true h).2.1) W (Lib.hid (fun V hV => sLoopOk_any T p1 p2 p3 c1 c2 c3 n1 n2 n3 x a2 a3 m2 m3 y2 y3 ht h2 h3 hm3 V (hr.later hV))), fun W p1 p2 p3 c1 c2 c3 hr => iTrayAt_any T a1 p1 p2 p3 c1 c2 c3 n1 n2 n3 (by omega) (decide (lpO T n1 n2 n3 x a2 a3 m2 m3 y2 y3)) (fun h => (of_decide_eq_true h).2.1) W (Lib.hid (fun V hV => iLoopOk_any T p1 p2 p3 c1 c2 c3 n1 n2 n3 x a2 a3 m2 m3 y2 y3 ht h2 h3 hm3 wx wA wy wB V (hr.later hV)))⟩
  have hto := Lib.hid (fun W (hW : Below w.heap.size w W) => toLoop_any T p1 p2 p3 c1 c2 c3 n1 n2 n3 h1 h2 h3 x a2 a3 m2 m3 y2 y3 hm2 hm3 W (r1.later hW) (r2.later hW) (r3.later hW))
  have heq := Lib.hid (fun W pa1 pa2 pa3 pb1 pb2 pb3 ca1 ca2 ca3 cb1 cb2 cb3 ha hb => eqLoop_any T pa1 pa2 pa3 pb1 pb2 pb3 ca1 ca2 ca3 cb1 cb2 cb3 n1 n2 n3 h1 h2 h3 x a2 a3 m2 m3 y2 y3 hm2 hm3 W ha hb)
  clear r1 r2 r3 hm2 hm3 wx w2 wy w3 wz wA wB hx2 hx3 hN ht
  go_enter Try.func4, Try.ntmps4
  have BW := Lib.hid (Below.refl w.heap.size w)
  have hcon := Lib.hid (fun W (hW : Below w.heap.size w W) => hsz.out W hW)
  go_wp2_with fail
  refine (hcon.out _ (by repeat (first | exact Below.refl _ _ | refine Below.alloc ?_ (by simp <;> omega) _ | refine Below.drew ?_))).mono ?_
  clear hcon
  rintro e w1 ⟨rfl, hb⟩
  have cc : Below w.heap.size w w1 := below_via hb (by repeat (first | exact Below.refl _ _ | refine Below.alloc ?_ (by simp <;> omega) _ | refine Below.drew ?_)) (by simp <;> omega)
  have szw1 : w.heap.size + 1 ≤ w1.heap.size := by have := hb.size; first | omega | (simp at this; omega)
  have XA : Hid (w1.heap[w.heap.size]? = some (.cells #[.slice p1 n1 c1, .int .i64 T, .slice p2 n2 c2, .slice p3 n3 c3] 26 (0, 0))) := (hb.block (w.heap.size) (by simp <;> omega)).trans (heap_new _ _ _ (by simp))
  have BV := Lib.hid (BW.out.trans (cc.mono (by have := BW.out.size; omega)))
  clear BW
  have BW := BV
  clear BV
  clear cc hb
  obtain ⟨xA0, xA1, xA2, xA3, -, -, -, -⟩ := cells4 XA.out
  have hcon := Lib.hid (fun W (hW : Below w1.heap.size w1 W) => hto.out W (BW.out.trans (hW.mono (by have := BW.out.size; omega))))
  go_wp2_with fail
  refine (hcon.out _ (by repeat (first | exact Below.refl _ _ | refine Below.alloc ?_ (by simp <;> omega) _ | refine Below.drew ?_))).mono ?_
  clear hcon
  rintro e w2 ⟨pa1, pa2, pa3, ca1, ca2, ca3, rfl, hr, hb⟩
  have cc : Below w1.heap.size w1 w2 := below_via hb (by repeat (first | exact Below.refl _ _ | refine Below.alloc ?_ (by simp <;> omega) _ | refine Below.drew ?_)) (by simp <;> omega)
  have szw2 : w1.heap.size ≤ w2.heap.size := by have := hb.size; first | omega | (simp at this; omega)
  clear xA0 xA1 xA2 xA3
  have YA := Lib.hid ((cc.block (w.heap.size) (by omega)).trans XA.out)
  clear XA
  have XA := YA
  clear YA
  have BV := Lib.hid (BW.out.trans (cc.mono (by have := BW.out.size; omega)))
  clear BW
  have BW := BV
  clear BV
  have Oa := Lib.hid (hr.wide (show w1.heap.size ≤ _ by simp) (Nat.le_refl _))
  clear hr cc hb
  obtain ⟨xA0, xA1, xA2, xA3, -, -, -, -⟩ := cells4 XA.out
  have hcon := Lib.hid (fun W (hW : Below w2.heap.size w2 W) => hS.out W pa1 pa2 pa3 ca1 ca2 ca3 ((Oa.out.below hW (by omega)).rds (by have := hW.size; omega)))
  go_wp2_with fail
  refine (hcon.out _ (by repeat (first | exact Below.refl _ _ | refine Below.alloc ?_ (by simp <;> omega) _ | refine Below.drew ?_))).mono ?_
  clear hcon
  rintro e w3 ⟨rfl, hb⟩
  have cc : Below w2.heap.size w2 w3 := below_via hb (by repeat (first | exact Below.refl _ _ | refine Below.alloc ?_ (by simp <;> omega) _ | refine Below.drew ?_)) (by simp <;> omega)
  have szw3 : w2.heap.size ≤ w3.heap.size := by have := hb.size; first | omega | (simp at this; omega)
  clear Oa
  clear xA0 xA1 xA2 xA3
  have YA := Lib.hid ((cc.block (w.heap.size) (by omega)).trans XA.out)
  clear XA
  have XA := YA
  clear YA
  have BV := Lib.hid (BW.out.trans (cc.mono (by have := BW.out.size; omega)))
  clear BW
  have BW := BV
  clear BV
  clear cc hb
  obtain ⟨xA0, xA1, xA2, xA3, -, -, -, -⟩ := cells4 XA.out
  have hcon := Lib.hid (fun W (hW : Below w3.heap.size w3 W) => hto.out W (BW.out.trans (hW.mono (by have := BW.out.size; omega))))
  go_wp2_with fail
  refine (hcon.out _ (by repeat (first | exact Below.refl _ _ | refine Below.alloc ?_ (by simp <;> omega) _ | refine Below.drew ?_))).mono ?_
  clear hcon
  rintro e w4 ⟨pb1, pb2, pb3, cb1, cb2, cb3, rfl, hr, hb⟩
  have cc : Below w3.heap.size w3 w4 := below_via hb (by repeat (first | exact Below.refl _ _ | refine Below.alloc ?_ (by simp <;> omega) _ | refine Below.drew ?_)) (by simp <;> omega)
  have szw4 : w3.heap.size ≤ w4.heap.size := by have := hb.size; first | omega | (simp at this; omega)
  clear xA0 xA1 xA2 xA3
  have YA := Lib.hid ((cc.block (w.heap.size) (by omega)).trans XA.out)
  clear XA
  have XA := YA
  clear YA
  have BV := Lib.hid (BW.out.trans (cc.mono (by have := BW.out.size; omega)))
  clear BW
  have BW := BV
  clear BV
  have Ob := Lib.hid (hr.wide (show w3.heap.size ≤ _ by simp) (Nat.le_refl _))
  clear hr cc hb
  obtain ⟨xA0, xA1, xA2, xA3, -, -, -, -⟩ := cells4 XA.out
  have hcon := Lib.hid (fun W (hW : Below w4.heap.size w4 W) => hI.out W pb1 pb2 pb3 cb1 cb2 cb3 ((Ob.out.below hW (by omega)).rds (by have := hW.size; omega)))
  go_wp2_with fail
  refine (hcon.out _ (by repeat (first | exact Below.refl _ _ | refine Below.alloc ?_ (by simp <;> omega) _ | refine Below.drew ?_))).mono ?_
  clear hcon
  rintro e w5 ⟨rfl, hb⟩
  have cc : Below w4.heap.size w4 w5 := below_via hb (by repeat (first | exact Below.refl _ _ | refine Below.alloc ?_ (by simp <;> omega) _ | refine Below.drew ?_)) (by simp <;> omega)
  have szw5 : w4.heap.size + 1 ≤ w5.heap.size := by have := hb.size; first | omega | (simp at this; omega)
  clear xA0 xA1 xA2 xA3
  have YA := Lib.hid ((cc.block (w.heap.size) (by omega)).trans XA.out)
  have XB : Hid (w5.heap[w4.heap.size]? = some (.cells #[.slice pb1 n1 cb1, .int .i64 T, .slice pb2 n2 cb2, .slice pb3 n3 cb3] 32 (0, 0))) := (hb.block (w4.heap.size) (by simp <;> omega)).trans (heap_new _ _ _ (by simp))
  clear XA
  have XA := YA
  clear YA
  have Pb := Lib.hid (Ob.out.below cc (by omega))
  clear Ob
  have Ob := Pb
  clear Pb
  have BV := Lib.hid (BW.out.trans (cc.mono (by have := BW.out.size; omega)))
  clear BW
  have BW := BV
  clear BV
  clear cc hb
  obtain ⟨xA0, xA1, xA2, xA3, -, -, -, -⟩ := cells4 XA.out
  obtain ⟨xB0, xB1, xB2, xB3, -, -, -, -⟩ := cells4 XB.out
  have hne0 : (I0 != I0) = false := by simp
  have hto2 := Lib.hid (fun W (hW : Below w5.heap.size w5 W) => hto.out W (BW.out.trans (hW.mono (by have := BW.out.size; omega))))
  have heq2 := Lib.hid (fun W (hW : Below w5.heap.size w5 W) (p71 p72 p73 : Option Addr) (c71 c72 c73 : Nat) (h7 : LpRs W p71 p72 p73 c71 c72 c73 n1 n2 n3 x a2 a3 m2 m3 y2 y3) => heq.out W pb1 pb2 pb3 p71 p72 p73 cb1 cb2 cb3 c71 c72 c73 ((Ob.out.below hW (by omega)).rds (by have := hW.size; omega)) h7)
  go_wp2_with fail
  go_region_with (first | (go_at_call 17; refine (hto2.out _ (by repeat (first | exact Below.refl _ _ | refine Below.alloc ?_ (by simp <;> omega) _ | refine Below.drew ?_))).mono ?_; rintro e w6 ⟨p71, p72, p73, c71, c72, c73, rfl, ho7, hb7⟩; have xb7 := (hb7.block (w4.heap.size) (by simp <;> omega)).trans XB.out; obtain ⟨y0, y1, y2', y3', -, -, -, -⟩ := cells4 xb7; clear xb7) | (go_at_call 19; refine (heq2.out _ (below_via hb7 (by repeat (first | exact Below.refl _ _ | refine Below.alloc ?_ (by simp <;> omega) _ | refine Below.drew ?_)) (by simp <;> omega)) p71 p72 p73 c71 c72 c73 (ho7.rds (Nat.le_refl _))).mono ?_; rintro e w7 ⟨rfl, hb8⟩))
  all_goals
    have b7 : Below w5.heap.size w5 w6 := below_via hb7 (by repeat (first | exact Below.refl _ _ | refine Below.alloc ?_ (by simp <;> omega) _ | refine Below.drew ?_)) (by simp <;> omega)
    have b8 : Below w5.heap.size w5 w7 := b7.trans (hb8.mono b7.size)
    go_wp2_with fail
    go_ret
    exact ⟨rfl, BW.out.trans (b8.mono (by have := BW.out.size; omega))⟩

/-! The row's step. -/
theorem own : ownKnob Try.prog.godebug = none := by kernel_rfl
theorem laidOut : laidOutB Try.prog = true := by kernel_rfl
set_option maxRecDepth 100000 in
theorem lifted (os : Os) (started : os.Started) (H : Type) (enc : TypeId × Value → H) :
    ReturnsInHanded {} Try.checked os 4 .any (Rows.fnExactTrayAtSpec.pre6 enc Try.prog Try.f4 Rows.fnExactTrayAtRow.domain false) (Rows.fnExactTrayAtSpec.post enc Try.prog Try.f4 false true false false) := by
  refine returnsInHanded_of_change (C := Try.checked) own started (by kernel_rfl) Try.func4
    (ChangeSpec.witness6 (enc := enc) (C := Try.checked) false ⟨#[], #[.agg #[.slice none 0 0, .int .i64 0, .slice none 0 0, .slice none 0 0], .int .i64 0], []⟩ 8 (by kernel_rfl) (by kernel_rfl) (by kernel_rfl) (by kernel_rfl)) ?_
  intro W base args ds gs before hval0 hW hcnd _
  have hval : ∀ (j : Nat) t v, Try.f4.params[j]? = some t → args[j]? = some v → Value.okWide Try.prog W .any base t v := hval0
  have hW' := hW
  obtain ⟨p, q, hA0, hV, rfl, hfz, hnd⟩ := hW
  have hA : DataW.TrodAll enc Try.prog W 0 (fun _ => true) true Try.f4.params.toList args.toList ds p := hA0
  rw [Try.params4] at hA hval
  obtain ⟨v0, vs0, d0, ds0, p0, q0, hargs, rfl, rfl, h0, r0⟩ := trodAll_cons hA
  obtain ⟨v1, vs1, d1, ds1, p1, q1, rfl, rfl, rfl, h1, r1⟩ := trodAll_cons r0
  obtain ⟨rfl, rfl, rfl⟩ := trodAll_nil r1
  obtain rfl : args = #[v0, v1] := by cases args; simp_all
  obtain ⟨rfl, rfl⟩ := trodVars_none hV
  have k0 := h0
  have lt0 : ∀ x ∈ p0, x.block < W.heap.size := by obtain ⟨m, hm⟩ := k0; exact DataW.trod_lt m _ _ _ hm
  obtain ⟨cS1, cT, cS2, cS3, yS1, yT, yS2, yS3, m0, rfl, -, -, hS1, hT, hS2, hS3⟩ := Joins.open_agg4 Try.underlying26 (by kernel_rfl) (show Try.prog.cellsOf 26 = 4 by kernel_rfl) (hval 0 26 v0 rfl rfl) h0
  obtain ⟨T, eT, -, wT⟩ := DataW.trod_int Try.underlying3 hT
  simp only [List.cons.injEq, and_true] at eT
  subst eT
  obtain ⟨ps1, n1, c1, rfl⟩ : ∃ ps n c, cS1 = .slice ps n c := by
    rcases Go.Deep.open_slice Try.underlying22 hS1 with ⟨e, -⟩ | ⟨a, l, c, _, _, _, _, e, -⟩
    · simp at e; exact ⟨_, _, _, e⟩
    · simp at e; exact ⟨_, _, _, e⟩
  obtain ⟨ps2, n2, c2, rfl⟩ : ∃ ps n c, cS2 = .slice ps n c := by
    rcases Go.Deep.open_slice Try.underlying23 hS2 with ⟨e, -⟩ | ⟨a, l, c, _, _, _, _, e, -⟩
    · simp at e; exact ⟨_, _, _, e⟩
    · simp at e; exact ⟨_, _, _, e⟩
  obtain ⟨ps3, n3, c3, rfl⟩ : ∃ ps n c, cS3 = .slice ps n c := by
    rcases Go.Deep.open_slice Try.underlying24 hS3 with ⟨e, -⟩ | ⟨a, l, c, _, _, _, _, e, -⟩
    · simp at e; exact ⟨_, _, _, e⟩
    · simp at e; exact ⟨_, _, _, e⟩
  obtain ⟨x, hn1, r1, wx⟩ := ints_openW ⟨m0, by simpa [Value.cells] using hS1⟩
  obtain ⟨a2, m2, y2, hn2, hx2, r2, w2, wy⟩ := nest_openV (K := 2) Try.underlying23 Try.underlying103 (by kernel_rfl) (show Try.prog.cellsOf 103 = 3 by kernel_rfl) rfl (by intro i f hf; match i, hf with | 0, hf => simp at hf; subst hf; rfl | 1, hf => simp at hf; subst hf; rfl | 2, hf => simp at hf; subst hf; rfl) ⟨m0, by simpa [Value.cells] using hS2⟩
  obtain ⟨a3, m3, y3, hn3, hx3, r3, w3, wz⟩ := nest_openV (K := 1) Try.underlying24 Try.underlying105 (by kernel_rfl) (show Try.prog.cellsOf 105 = 2 by kernel_rfl) rfl (by intro i f hf; match i, hf with | 0, hf => simp at hf; subst hf; rfl | 1, hf => simp at hf; subst hf; rfl) ⟨m0, by simpa [Value.cells] using hS3⟩
  have k1 := h1
  have lt1 : ∀ x ∈ p1, x.block < W.heap.size := by obtain ⟨m, hm⟩ := k1; exact DataW.trod_lt m _ _ _ hm
  obtain ⟨a1, rfl, -, -, wa1⟩ := open_int Try.underlying3 (hval 1 3 v1 rfl rfl) h1
  clear hA0 hval0
  refine (walk T ps1 ps2 ps3 c1 c2 c3 n1 n2 n3 x a2 a3 m2 m3 y2 y3 a1 W hn1 hn2 hn3 hx2 hx3 r1 r2 r3 wx w2 wy w3 wz wT wa1).mono fun e W' ⟨he, bel⟩ => ?_
  subst he
  exact ⟨_, rfl, _, _, _, [], _, [], hW', trodAll_mk1 (shut_bool Try.underlying4 _), (trodAll_cons_mk (Below.trod laidOut (by kernel_rfl) (of_decide_eq_true (by kernel_rfl)) k0 bel lt0) (trodAll_cons_mk (Below.trod laidOut (by kernel_rfl) (of_decide_eq_true (by kernel_rfl)) k1 bel lt1) trodAll_mk0)), rfl, bel.frame _, fun h => by cases h⟩

theorem over : Rows.fnExactTrayAtRow.holds Try.pinned (OpenSpec.ofChange Rows.fnExactTrayAtSpec) :=
  OpenClaim.holds_of_wide 4 Try.f4 rfl rfl rfl rfl rfl rfl rfl ⟨rfl, rfl, rfl, rfl, rfl⟩ rfl rfl rfl rfl rfl (by kernel_rfl) Try.func4 (by kernel_rfl)
    (of_decide_eq_true (by kernel_rfl)) (by unfold Func.isWrapper; first | (rw [if_pos (by decide +kernel)]; kernel_rfl) | (rw [if_neg (by decide +kernel)]; exact ⟨rfl, rfl⟩))
    (fun os started H enc _ => lifted os started H enc)

/-- The statement. -/
theorem proved : Rows.FnExactTrayAtSaid := over
#print axioms proved
end Go.Proofs.Ytokhkcebdbopcab.fnExactTrayAt
