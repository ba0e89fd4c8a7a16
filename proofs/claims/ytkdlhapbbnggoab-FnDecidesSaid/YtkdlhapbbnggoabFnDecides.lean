/- For every code FnDecides returns true, and the code reads as before. No condition. -/
import Derived.Test.YtkdlhapbbnggoabRows
import Derived.Test.YtkdlhapbbnggoabDrawDec3
import Derived.Test.YtkdlhapbbnggoabElapsePlain
import Derived.Test.YtkdlhapbbnggoabElapseI
import Derived.Test.YtkdlhapbbnggoabDecideI
import Derived.Test.YtkdlhapbbnggoabDecideS
import Derived.Test.YtkdlhapbbnggoabBig
import Derived.OpenShut
import Derived.ChangeOld
import Derived.Lib.SmallJoins
namespace Go.Proofs.Ytkdlhapbbnggoab.fnDecides
open Go.ChangeShapes Go.WideShapes Go.ChangeAt Go.RowKit
set_option linter.unusedVariables false

/-- What a decision's answer says, against what time alone makes of the bag. -/
theorem de_said (n : Nat) (z : Nat → Int) (L S V now d : Int) :
    (deB n z L S V now d = false → deL n z L S V now d = L ∧ deS n z L S V now d = S ∧ deV n z L S V now d = V) ∧
    (deB n z L S V now d = true → V = 0 ∧ (1 ≤ eL n z L S V now ∧ eL n z L S V now ≤ 4) ∧ ScP (deL n z L S V now d) (deS n z L S V now d) (deV n z L S V now d) ∧
      ((d = 1 ∧ deL n z L S V now d = eL n z L S V now ∧ deS n z L S V now d = eS n z L S V now ∧ deV n z L S V now d = 1) ∨
       (d ≠ 1 ∧ eL n z L S V now = 4 ∧ deL n z L S V now d = 4 ∧ deS n z L S V now d = eS n z L S V now ∧ deV n z L S V now d = 2) ∨
       (d ≠ 1 ∧ eL n z L S V now ≠ 4 ∧ deL n z L S V now d = eL n z L S V now + 1 ∧ deS n z L S V now d = now ∧ deV n z L S V now d = 0))) := by
  by_cases h : DeP n z L S V now d (eL n z L S V now) (eS n z L S V now)
  · obtain ⟨hp, hs, hn, hd, hV, hb, hno⟩ := id h
    obtain ⟨hsc, -⟩ := eLS_two (V := V) hp hs hn hn (Int.le_refl _)
    by_cases k : d = 1
    · obtain ⟨e1, e2, e3, e4⟩ := de_clear rfl rfl h k
      refine ⟨fun q => by rw [e4] at q; exact absurd q (by decide), fun _ => ⟨hV, hsc.1, ?_, .inl ⟨k, e1, e2, e3⟩⟩⟩
      rw [e1, e2, e3]
      exact ⟨hsc.1, hsc.2.1, .inr (.inl rfl)⟩
    · by_cases k4 : eL n z L S V now = 4
      · obtain ⟨e1, e2, e3, e4⟩ := de_alarm rfl rfl h k k4
        refine ⟨fun q => by rw [e4] at q; exact absurd q (by decide), fun _ => ⟨hV, hsc.1, ?_, .inr (.inl ⟨k, k4, e1.trans k4, e2, e3⟩)⟩⟩
        rw [e1, e2, e3]
        exact ⟨hsc.1, hsc.2.1, .inr (.inr ⟨rfl, k4⟩)⟩
      · obtain ⟨e1, e2, e3, e4⟩ := de_on rfl rfl h k k4
        refine ⟨fun q => by rw [e4] at q; exact absurd q (by decide), fun _ => ⟨hV, hsc.1, ?_, .inr (.inr ⟨k, k4, e1, e2, e3⟩)⟩⟩
        rw [e1, e2, e3]
        have := hsc.1
        exact ⟨by omega, hn, .inl rfl⟩
  · obtain ⟨e1, e2, e3, e4⟩ := de_no h
    exact ⟨fun _ => ⟨e1, e2, e3⟩, fun q => by rw [e4] at q; exact absurd q (by decide)⟩

set_option maxRecDepth 100000 in
set_option maxHeartbeats 8000000 in
theorem walk (p : Option Addr) (n cap gc oc : Nat) (w : World) (hn : n ≤ maxLen) (hC : Code w.heap.size n w p gc oc) :
    Calls Try.prog 14 #[.slice p n cap] w fun e w' => e = .returned (.bool true) ∧ Below w.heap.size w w' := by
  have hbg := Lib.hid (big_any p n cap hn w)
  by_cases hbig : 1048576 < n
  · have hd : decide (1048576 < n) = true := decide_eq_true hbig
    simp only [hd] at hbg
    clear hC hbig hd hn
    go_enter Try.func14, Try.ntmps14
    go_wp2_with (go_at_call 38; refine hbg.out.mono ?_; rintro e w' ⟨rfl, rfl⟩)
    go_ret
    exact ⟨rfl, Below.refl _ _⟩
  have hd : decide (1048576 < n) = false := decide_eq_false hbig
  simp only [hd] at hbg
  have hn' : n ≤ 1048576 := by omega
  have HC := Lib.hid hC
  clear hC hbig hd hn
  go_enter Try.func14, Try.ntmps14
  go_wp2_with (go_at_call 38; refine hbg.out.mono ?_; rintro e w' ⟨rfl, rfl⟩)
  refine (DrawDecide_any hn' (Below.refl _ _) HC.out).mono ?_
  rintro e w1 ⟨v, q, z, L, S, V, tn, D, hq4, hSr, rfl, hk, hb1⟩
  have K1 := Lib.hid hk
  have B1 := Lib.hid hb1
  obtain ⟨pv, cv, gv, ov, rfl, -, -⟩ := hk
  clear hb1 hbg hq4 hSr
  obtain ⟨f1, f2⟩ := de_said q z L S V tn D
  have hI := fun W h => iDecide_v q z (.slice pv q cv) L S V tn D W h
  have hS := fun W h => sDecide_v q z (.slice pv q cv) L S V tn D W h
  have hE := fun W h => iElapse_v q z (.slice pv q cv) L S V tn W h
  obtain ⟨r1, hr1⟩ : ∃ r, r = deL q z L S V tn D := ⟨_, rfl⟩
  obtain ⟨r2, hr2⟩ : ∃ r, r = deS q z L S V tn D := ⟨_, rfl⟩
  obtain ⟨r3, hr3⟩ : ∃ r, r = deV q z L S V tn D := ⟨_, rfl⟩
  obtain ⟨rb, hrb⟩ : ∃ r, r = deB q z L S V tn D := ⟨_, rfl⟩
  obtain ⟨a, ha⟩ : ∃ r, r = eL q z L S V tn := ⟨_, rfl⟩
  obtain ⟨b, hb⟩ : ∃ r, r = eS q z L S V tn := ⟨_, rfl⟩
  rw [← hr1, ← hr2, ← hr3, ← hrb] at hI hS f1 f2
  rw [← ha, ← hb] at hE f2
  have HI := Lib.hid hI
  have HS := Lib.hid hS
  have HE := Lib.hid hE
  have HG1 := Lib.hid f1
  have HG2 := Lib.hid f2
  clear hr1 hr2 hr3 hrb ha hb hI hS hE f1 f2
  go_upto_region 4 with fail
  obtain ⟨w2, hw2⟩ : ∃ xx, xx = (w1.alloc (.cells #[.slice pv q cv] 69)).alloc (.cells #[.int .i64 L, .int .i64 S, .int .i64 V] 71) := ⟨_, rfl⟩
  have b2 : Below w1.heap.size w1 w2 := by rw [hw2]; exact ((Below.refl _ _).alloc (Nat.le_refl _) _).alloc (by simp) _
  have A2 : Hid (w2.heap[w1.heap.size]? = some (.cells #[.slice pv q cv] 69 (0, 0))) := by rw [hw2]; exact (heap_old _ _ _ (by simp)).trans (heap_new _ _ _ rfl)
  have S2 : Hid (w2.heap[w1.heap.size + 1]? = some (.cells #[.int .i64 L, .int .i64 S, .int .i64 V] 71 (0, 0))) := by rw [hw2]; exact heap_new _ _ _ (by simp)
  rw [← hw2]
  clear hw2
  have B2 := Lib.hid (B1.out.trans (b2.mono B1.out.size))
  have K2 := Lib.hid (K1.out.later b2)
  clear b2 B1 K1
  obtain ⟨a0, -⟩ := cells1 A2.out
  obtain ⟨s0, s1, s2, -⟩ := cells3 S2.out
  go_wp2_with fail
  clear a0 s0 s1 s2
  refine (HI.out _ K2.out).mono ?_
  rintro e w3 ⟨rfl, hb⟩
  have B3 := Lib.hid (B2.out.trans (hb.mono B2.out.size))
  have K3 := Lib.hid (K2.out.later hb)
  have A3 := Lib.hid (blk_later A2.out hb)
  have S3 := Lib.hid (blk_later S2.out hb)
  clear hb B2 K2 A2 S2
  obtain ⟨a0, -⟩ := cells1 A3.out
  obtain ⟨s0, s1, s2, -⟩ := cells3 S3.out
  go_upto_region 5 with fail
  clear a0 s0 s1 s2
  obtain ⟨w4, hw⟩ : ∃ xx, xx = w3.alloc (.cells #[.int .i64 r1, .int .i64 r2, .int .i64 r3] 71) := ⟨_, rfl⟩
  have hb : Below w3.heap.size w3 w4 := by rw [hw]; exact (Below.refl _ _).alloc (Nat.le_refl _) _
  have X4 : Hid (w4.heap[w3.heap.size]? = some (.cells #[.int .i64 r1, .int .i64 r2, .int .i64 r3] 71 (0, 0))) := by rw [hw]; exact heap_new _ _ _ rfl
  rw [← hw]
  clear hw
  have B4 := Lib.hid (B3.out.trans (hb.mono B3.out.size))
  have K4 := Lib.hid (K3.out.later hb)
  have A4 := Lib.hid (blk_later A3.out hb)
  have S4 := Lib.hid (blk_later S3.out hb)
  clear hb B3 K3 A3 S3
  obtain ⟨a0, -⟩ := cells1 A4.out
  obtain ⟨s0, s1, s2, -⟩ := cells3 S4.out
  obtain ⟨x0, x1, x2, -⟩ := cells3 X4.out
  go_wp2_with fail
  clear a0 s0 s1 s2 x0 x1 x2
  refine (HS.out _ K4.out).mono ?_
  rintro e w5 ⟨rfl, hb⟩
  have B5 := Lib.hid (B4.out.trans (hb.mono B4.out.size))
  have K5 := Lib.hid (K4.out.later hb)
  have A5 := Lib.hid (blk_later A4.out hb)
  have S5 := Lib.hid (blk_later S4.out hb)
  have X5 := Lib.hid (blk_later X4.out hb)
  clear hb B4 K4 A4 S4 X4
  obtain ⟨a0, -⟩ := cells1 A5.out
  obtain ⟨s0, s1, s2, -⟩ := cells3 S5.out
  obtain ⟨x0, x1, x2, -⟩ := cells3 X5.out
  go_upto_region 6 with fail
  clear a0 s0 s1 s2 x0 x1 x2
  obtain ⟨w6, hw⟩ : ∃ xx, xx = w5.alloc (.cells #[.int .i64 r1, .int .i64 r2, .int .i64 r3] 71) := ⟨_, rfl⟩
  have hb : Below w5.heap.size w5 w6 := by rw [hw]; exact (Below.refl _ _).alloc (Nat.le_refl _) _
  have Y6 : Hid (w6.heap[w5.heap.size]? = some (.cells #[.int .i64 r1, .int .i64 r2, .int .i64 r3] 71 (0, 0))) := by rw [hw]; exact heap_new _ _ _ rfl
  rw [← hw]
  clear hw
  have B6 := Lib.hid (B5.out.trans (hb.mono B5.out.size))
  have K6 := Lib.hid (K5.out.later hb)
  have A6 := Lib.hid (blk_later A5.out hb)
  have S6 := Lib.hid (blk_later S5.out hb)
  have X6 := Lib.hid (blk_later X5.out hb)
  clear hb B5 K5 A5 S5 X5
  obtain ⟨a0, -⟩ := cells1 A6.out
  obtain ⟨s0, s1, s2, -⟩ := cells3 S6.out
  obtain ⟨x0, x1, x2, -⟩ := cells3 X6.out
  obtain ⟨y0', y1', y2', -⟩ := cells3 Y6.out
  cases rb
  · obtain ⟨rfl, rfl, rfl⟩ := HG1.out rfl
    clear HG2 HG1
    go_wp2_with fail
    go_ret
    exact ⟨rfl, B6.out⟩
  obtain ⟨hV, ha14, hsc, hcase⟩ := HG2.out rfl
  subst hV
  have HSX : Hid (scB r1 r2 r3 = true) := scB_yes hsc
  clear HG1 HG2 hsc
  go_wp2_with fail
  clear a0 s0 s1 s2 x0 x1 x2 y0' y1' y2'
  refine (HE.out _ K6.out).mono ?_
  rintro e w7 ⟨rfl, hb⟩
  have B7 := Lib.hid (B6.out.trans (hb.mono B6.out.size))
  have K7 := Lib.hid (K6.out.later hb)
  have A7 := Lib.hid (blk_later A6.out hb)
  have S7 := Lib.hid (blk_later S6.out hb)
  have X7 := Lib.hid (blk_later X6.out hb)
  have Y7 := Lib.hid (blk_later Y6.out hb)
  clear hb B6 K6 A6 S6 X6 Y6
  obtain ⟨a0, -⟩ := cells1 A7.out
  obtain ⟨s0, s1, s2, -⟩ := cells3 S7.out
  obtain ⟨x0, x1, x2, -⟩ := cells3 X7.out
  obtain ⟨y0', y1', y2', -⟩ := cells3 Y7.out
  go_upto_region 11 with fail
  clear a0 s0 s1 s2 x0 x1 x2 y0' y1' y2'
  obtain ⟨w8, hw⟩ : ∃ xx, xx = w7.alloc (.cells #[.int .i64 a, .int .i64 b, .int .i64 0] 71) := ⟨_, rfl⟩
  have hb : Below w7.heap.size w7 w8 := by rw [hw]; exact (Below.refl _ _).alloc (Nat.le_refl _) _
  have T8 : Hid (w8.heap[w7.heap.size]? = some (.cells #[.int .i64 a, .int .i64 b, .int .i64 0] 71 (0, 0))) := by rw [hw]; exact heap_new _ _ _ rfl
  rw [← hw]
  clear hw
  have B8 := Lib.hid (B7.out.trans (hb.mono B7.out.size))
  have K8 := Lib.hid (K7.out.later hb)
  have A8 := Lib.hid (blk_later A7.out hb)
  have S8 := Lib.hid (blk_later S7.out hb)
  have X8 := Lib.hid (blk_later X7.out hb)
  have Y8 := Lib.hid (blk_later Y7.out hb)
  clear hb B7 K7 A7 S7 X7 Y7
  obtain ⟨a0, -⟩ := cells1 A8.out
  obtain ⟨s0, s1, s2, -⟩ := cells3 S8.out
  obtain ⟨x0, x1, x2, -⟩ := cells3 X8.out
  obtain ⟨y0', y1', y2', -⟩ := cells3 Y8.out
  obtain ⟨t0, t1, t2, -⟩ := cells3 T8.out
  go_wp2_with fail
  clear a0 s0 s1 s2 x0 x1 x2 y0' y1' y2' t0 t1 t2
  refine (iScreenOk_at HSX.out _).mono ?_
  rintro e w9 ⟨rfl, hb⟩
  have B9 := Lib.hid (B8.out.trans (hb.mono B8.out.size))
  have K9 := Lib.hid (K8.out.later hb)
  have A9 := Lib.hid (blk_later A8.out hb)
  have S9 := Lib.hid (blk_later S8.out hb)
  have X9 := Lib.hid (blk_later X8.out hb)
  have Y9 := Lib.hid (blk_later Y8.out hb)
  have T9 := Lib.hid (blk_later T8.out hb)
  clear hb B8 K8 A8 S8 X8 Y8 T8
  obtain ⟨a0, -⟩ := cells1 A9.out
  obtain ⟨s0, s1, s2, -⟩ := cells3 S9.out
  obtain ⟨x0, x1, x2, -⟩ := cells3 X9.out
  obtain ⟨y0', y1', y2', -⟩ := cells3 Y9.out
  obtain ⟨t0, t1, t2, -⟩ := cells3 T9.out
  rcases hcase with ⟨rfl, rfl, rfl, rfl⟩ | ⟨hD, rfl, rfl, rfl, rfl⟩ | ⟨hD, h4, rfl, rfl, rfl⟩
  · go_wp2_with fail
    go_ret
    exact ⟨rfl, B9.out⟩
  · have hd1 : (D == 1) = false := by simpa using hD
    go_wp2_with fail
    go_ret
    exact ⟨rfl, B9.out⟩
  · have hd1 : (D == 1) = false := by simpa using hD
    have hd4 : (a == 4) = false := by simpa using h4
    have hwr : IntKind.i64.wrap (a + 1) = a + 1 := IntWalk.i64_in _ (by omega)
    go_wp2_with fail
    go_ret
    exact ⟨rfl, B9.out⟩

/-! The row's step. -/
theorem own : ownKnob Try.prog.godebug = none := by kernel_rfl
theorem laidOut : laidOutB Try.prog = true := by kernel_rfl
set_option maxRecDepth 100000 in
theorem lifted (os : Os) (started : os.Started) (H : Type) (enc : TypeId × Value → H) :
    ReturnsInHanded {} Try.checked os 14 .any (Rows.fnDecidesSpec.pre6 enc Try.prog Try.f14 Rows.fnDecidesRow.domain false) (Rows.fnDecidesSpec.post enc Try.prog Try.f14 false true false false) := by
  refine returnsInHanded_of_change (C := Try.checked) own started (by kernel_rfl) Try.func14
    (ChangeSpec.witness6 (enc := enc) (C := Try.checked) false ⟨#[], #[.slice none 0 0], []⟩ 8 (by kernel_rfl) (by kernel_rfl) (by kernel_rfl) (by kernel_rfl)) ?_
  intro W base args ds gs before hval0 hW hcnd _
  have hval : ∀ (j : Nat) t v, Try.f14.params[j]? = some t → args[j]? = some v → Value.okWide Try.prog W .any base t v := hval0
  have hW' := hW
  obtain ⟨p, q, hA0, hV, rfl, hfz, hnd⟩ := hW
  have hA : DataW.TrodAll enc Try.prog W 0 (fun _ => true) true Try.f14.params.toList args.toList ds p := hA0
  rw [Try.params14] at hA hval
  obtain ⟨v0, vs0, d0, ds0, p0, q0, hargs, rfl, rfl, h0, r0⟩ := trodAll_cons hA
  obtain ⟨rfl, rfl, rfl⟩ := trodAll_nil r0
  obtain rfl : args = #[v0] := by cases args; simp_all
  obtain ⟨rfl, rfl⟩ := trodVars_none hV
  have k0 := h0
  have lt0 : ∀ x ∈ p0, x.block < W.heap.size := by obtain ⟨m, hm⟩ := k0; exact DataW.trod_lt m _ _ _ hm
  obtain ⟨sp0, ln0, cp0, rfl⟩ := okWide_slice Try.underlying49 (hval 0 49 v0 rfl rfl)
  obtain ⟨gc0, oc0, w0, cd0⟩ := code_open h0
  clear hA0 hval0
  refine (walk sp0 ln0 cp0 gc0 oc0 W w0 cd0).mono fun e W' ⟨he, bel⟩ => ?_
  subst he
  exact ⟨_, rfl, _, _, _, [], _, [], hW', trodAll_mk1 (shut_bool Try.underlying4 _), (trodAll_cons_mk (Below.trod laidOut (by kernel_rfl) (of_decide_eq_true (by kernel_rfl)) k0 bel lt0) trodAll_mk0), rfl, bel.frame _, fun h => by cases h⟩

theorem over : Rows.fnDecidesRow.holds Try.pinned (OpenSpec.ofChange Rows.fnDecidesSpec) :=
  OpenClaim.holds_of_wide 14 Try.f14 rfl rfl rfl rfl rfl rfl rfl ⟨rfl, rfl, rfl, rfl, rfl⟩ rfl rfl rfl rfl rfl (by kernel_rfl) Try.func14 (by kernel_rfl)
    (of_decide_eq_true (by kernel_rfl)) (by unfold Func.isWrapper; first | (rw [if_pos (by decide +kernel)]; kernel_rfl) | (rw [if_neg (by decide +kernel)]; exact ⟨rfl, rfl⟩))
    (fun os started H enc _ => lifted os started H enc)

/-- The statement. -/
theorem proved : Rows.FnDecidesSaid := over
#print axioms proved
end Go.Proofs.Ytkdlhapbbnggoab.fnDecides
