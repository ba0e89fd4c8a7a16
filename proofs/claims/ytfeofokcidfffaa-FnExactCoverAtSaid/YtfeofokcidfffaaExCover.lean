/- For every belt and numbers the exact law of CoverAt returns true, and the arguments read as before. No condition. -/
import Derived.Test.YtfeofokcidfffaaRows
import Derived.Test.YtfeofokcidfffaaBeltLaw
import Derived.Test.YtfeofokcidfffaaOpen
import Derived.Test.YtfeofokcidfffaaCover
import Derived.Deep.CutRange
import Derived.Deep.RegionWith
import Derived.OpenShut
import Derived.ChangeOld
import Derived.Lib.SmallJoins
namespace Go.Proofs.Ytfeofokcidfffaa.fnExactCoverAt
open Go.ChangeShapes Go.WideShapes Go.ChangeAt Go.RowKit
set_option linter.unusedVariables false

set_option maxRecDepth 100000 in
set_option maxHeartbeats 4000000 in
theorem walk (L G : Int) (H : Bool) (p : Option Addr) (c g o n : Nat) (z : Nat → Int) (s0 : Int) (w : World) (hnc : n ≤ c) (hcm : c ≤ maxLen) (h : FlatAt w 0 w.heap.size p g o (n * 3) (fun j => .int .i64 (z j))) (wL : (Lit.int .i64 L).wf = true) (wG : (Lit.int .i64 G).wf = true) (ws0 : (Lit.int .i64 s0).wf = true) :
    Calls Try.prog 11 #[.agg #[.int .i64 L, .int .i64 G, .bool H, .slice p n c], .int .i64 s0] w fun e w' => e = .returned (.bool true) ∧ Below w.heap.size w w' := by
  have hsz := Lib.hid (fun W => szBelt_any n p c 1048576 (by omega) (by omega) L G H W)
  by_cases hn : n ≤ 1048576
  · simp only [if_pos hn] at hsz
    have F0 := Lib.hid h
    have BW := Lib.hid (Below.refl w.heap.size w)
    clear h
    go_enter Try.func11, Try.ntmps11
    have hcon := Lib.hid (fun W (hW : Below w.heap.size w W) => hsz.out W)
    go_wp2_with fail
    refine (hcon.out _ (by repeat (first | exact Below.refl _ _ | refine Below.alloc ?_ (by simp <;> omega) _ | refine Below.drew ?_))).mono ?_
    clear hcon
    rintro e w1 ⟨rfl, hb⟩
    have cc : Below w.heap.size w w1 := below_via hb (by repeat (first | exact Below.refl _ _ | refine Below.alloc ?_ (by simp <;> omega) _ | refine Below.drew ?_)) (by simp <;> omega)
    have szw1 : w.heap.size + 1 ≤ w1.heap.size := by have := hb.size; simp at this; omega
    have XA : Hid (w1.heap[w.heap.size]? = some (.cells #[.int .i64 L, .int .i64 G, .bool H, .slice p n c] 41 (0, 0))) := (hb.block (w.heap.size) (by simp <;> omega)).trans (heap_new _ _ _ (by simp))
    have BV := Lib.hid (BW.out.trans (cc.mono (by omega)))
    clear BW cc hb
    have BW := BV
    clear BV
    obtain ⟨xA0, xA1, xA2, xA3, -, -, -, -⟩ := cells4 XA.out
    have hcon := Lib.hid (fun W (hW : Below w1.heap.size w1 W) => toBelt_any n hn z p c g o L G H W ((F0.out.below (BW.out.trans (hW.mono (by omega))) (Nat.le_refl _)).wide (Nat.zero_le _) (by have := BW.out.size; have := hW.size; omega)))
    go_wp2_with fail
    refine (hcon.out _ (by repeat (first | exact Below.refl _ _ | refine Below.alloc ?_ (by simp <;> omega) _ | refine Below.drew ?_))).mono ?_
    clear hcon
    rintro e w2 ⟨pa, ca, ga, rfl, hca, hr, he, hb⟩
    clear xA0 xA1 xA2 xA3
    have cc : Below w1.heap.size w1 w2 := below_via hb (by repeat (first | exact Below.refl _ _ | refine Below.alloc ?_ (by simp <;> omega) _ | refine Below.drew ?_)) (by simp <;> omega)
    have szw2 : w1.heap.size ≤ w2.heap.size := hb.size
    have YA := Lib.hid ((cc.block (w.heap.size) (by omega)).trans XA.out)
    have BV := Lib.hid (BW.out.trans (cc.mono (by omega)))
    clear XA BW cc hb
    have XA := YA
    clear YA
    have BW := BV
    clear BV
    have Ra := Lib.hid (hr.wide (show w1.heap.size ≤ _ by simp) (Nat.le_refl _))
    have Ea := Lib.hid he
    clear hr he
    obtain ⟨xA0, xA1, xA2, xA3, -, -, -, -⟩ := cells4 XA.out
    have hcon := Lib.hid (fun W (hW : Below w2.heap.size w2 W) => sCover_any n (by unfold maxLen; omega) z pa ca ga 0 L G H s0 ws0 W ((Ra.out.below hW (by omega)).wide (Nat.zero_le _) (by have := hW.size; omega)))
    go_wp2_with fail
    refine (hcon.out _ (by repeat (first | exact Below.refl _ _ | refine Below.alloc ?_ (by simp <;> omega) _ | refine Below.drew ?_))).mono ?_
    clear hcon
    rintro e w3 ⟨rfl, hb⟩
    clear xA0 xA1 xA2 xA3
    have cc : Below w2.heap.size w2 w3 := below_via hb (by repeat (first | exact Below.refl _ _ | refine Below.alloc ?_ (by simp <;> omega) _ | refine Below.drew ?_)) (by simp <;> omega)
    have szw3 : w2.heap.size ≤ w3.heap.size := hb.size
    have YA := Lib.hid ((cc.block (w.heap.size) (by omega)).trans XA.out)
    have Fa := Lib.hid (Ea.out.below cc (fun hm => by have := (Ra.out.1 hm).2.2; omega))
    have Qa := Lib.hid (Ra.out.below cc (by omega))
    have BV := Lib.hid (BW.out.trans (cc.mono (by omega)))
    clear XA Ea Ra BW cc hb
    have XA := YA
    clear YA
    have Ea := Fa
    clear Fa
    have Ra := Qa
    clear Qa
    have BW := BV
    clear BV
    obtain ⟨xA0, xA1, xA2, xA3, -, -, -, -⟩ := cells4 XA.out
    have hcon := Lib.hid (fun W (hW : Below w3.heap.size w3 W) => toBelt_any n hn z p c g o L G H W ((F0.out.below (BW.out.trans (hW.mono (by omega))) (Nat.le_refl _)).wide (Nat.zero_le _) (by have := BW.out.size; have := hW.size; omega)))
    go_wp2_with fail
    refine (hcon.out _ (by repeat (first | exact Below.refl _ _ | refine Below.alloc ?_ (by simp <;> omega) _ | refine Below.drew ?_))).mono ?_
    clear hcon
    rintro e w4 ⟨pb, cb, gb, rfl, hcb, hr, he, hb⟩
    clear xA0 xA1 xA2 xA3
    have cc : Below w3.heap.size w3 w4 := below_via hb (by repeat (first | exact Below.refl _ _ | refine Below.alloc ?_ (by simp <;> omega) _ | refine Below.drew ?_)) (by simp <;> omega)
    have szw4 : w3.heap.size ≤ w4.heap.size := hb.size
    have YA := Lib.hid ((cc.block (w.heap.size) (by omega)).trans XA.out)
    have Fa := Lib.hid (Ea.out.below cc (fun hm => by have := (Ra.out.1 hm).2.2; omega))
    have Qa := Lib.hid (Ra.out.below cc (by omega))
    have BV := Lib.hid (BW.out.trans (cc.mono (by omega)))
    clear XA Ea Ra BW cc hb
    have XA := YA
    clear YA
    have Ea := Fa
    clear Fa
    have Ra := Qa
    clear Qa
    have BW := BV
    clear BV
    have Rb := Lib.hid (hr.wide (show w3.heap.size ≤ _ by simp) (Nat.le_refl _))
    have Eb := Lib.hid he
    clear hr he
    obtain ⟨xA0, xA1, xA2, xA3, -, -, -, -⟩ := cells4 XA.out
    have hcon := Lib.hid (fun W (hW : Below w4.heap.size w4 W) => iCover_any n (by unfold maxLen; omega) z pb cb gb 0 L G H s0 ws0 W ((Rb.out.below hW (by omega)).wide (Nat.zero_le _) (by have := hW.size; omega)) hcb)
    go_wp2_with fail
    refine (hcon.out _ (by repeat (first | exact Below.refl _ _ | refine Below.alloc ?_ (by simp <;> omega) _ | refine Below.drew ?_))).mono ?_
    clear hcon
    rintro e w5 ⟨rfl, hb⟩
    clear xA0 xA1 xA2 xA3
    have cc : Below w4.heap.size w4 w5 := below_via hb (by repeat (first | exact Below.refl _ _ | refine Below.alloc ?_ (by simp <;> omega) _ | refine Below.drew ?_)) (by simp <;> omega)
    have szw5 : w4.heap.size + 1 ≤ w5.heap.size := by have := hb.size; simp at this; omega
    have YA := Lib.hid ((cc.block (w.heap.size) (by omega)).trans XA.out)
    have XB : Hid (w5.heap[w4.heap.size]? = some (.cells #[.int .i64 L, .int .i64 G, .bool H, .slice pb n cb] 24 (0, 0))) := (hb.block (w4.heap.size) (by simp <;> omega)).trans (heap_new _ _ _ (by simp))
    have Fa := Lib.hid (Ea.out.below cc (fun hm => by have := (Ra.out.1 hm).2.2; omega))
    have Qa := Lib.hid (Ra.out.below cc (by omega))
    have Fb := Lib.hid (Eb.out.below cc (fun hm => by have := (Rb.out.1 hm).2.2; omega))
    have Qb := Lib.hid (Rb.out.below cc (by omega))
    have BV := Lib.hid (BW.out.trans (cc.mono (by omega)))
    clear XA Ea Ra Eb Rb BW cc hb
    have XA := YA
    clear YA
    have Ea := Fa
    clear Fa
    have Ra := Qa
    clear Qa
    have Eb := Fb
    clear Fb
    have Rb := Qb
    clear Qb
    have BW := BV
    clear BV
    obtain ⟨xA0, xA1, xA2, xA3, -, -, -, -⟩ := cells4 XA.out
    obtain ⟨xB0, xB1, xB2, xB3, -, -, -, -⟩ := cells4 XB.out
    have hto := Lib.hid (fun W (hW : Below w5.heap.size w5 W) => toBelt_any n hn z p c g o L G H W ((F0.out.below (BW.out.trans (hW.mono (by omega))) (Nat.le_refl _)).wide (Nat.zero_le _) (by have := BW.out.size; have := hW.size; omega)))
    have heq := Lib.hid (fun W (hW : Below w5.heap.size w5 W) (p7 : Option Addr) (c7 g7 : Nat) (h7 : FlatAt W 0 W.heap.size p7 g7 0 (n * 3) (fun j => .int .i64 (z j))) => eqBelt_any n hn z pb p7 cb c7 gb 0 g7 0 L G H W ((Rb.out.below hW (by omega)).wide (Nat.zero_le _) (by have := hW.size; omega)) h7)
    go_wp2_with fail
    go_region_with (first | (go_at_call 24; refine (hto.out _ (by repeat (first | exact Below.refl _ _ | refine Below.alloc ?_ (by simp <;> omega) _ | refine Below.drew ?_))).mono ?_; rintro e w6 ⟨p7, c7, g7, rfl, hc7, hr7, he7, hb7⟩; have xb7 := (hb7.block (w4.heap.size) (by simp <;> omega)).trans XB.out; obtain ⟨y0, y1, y2, y3, -, -, -, -⟩ := cells4 xb7; clear xb7) | (go_at_call 25; refine (heq.out _ (below_via hb7 (by repeat (first | exact Below.refl _ _ | refine Below.alloc ?_ (by simp <;> omega) _ | refine Below.drew ?_)) (by simp <;> omega)) p7 c7 g7 (hr7.wide (Nat.zero_le _) (Nat.le_refl _))).mono ?_; rintro e w7 ⟨rfl, hb8⟩))
    all_goals
      have b7 : Below w5.heap.size w5 w6 := below_via hb7 (by repeat (first | exact Below.refl _ _ | refine Below.alloc ?_ (by simp <;> omega) _ | refine Below.drew ?_)) (by simp <;> omega)
      have b8 : Below w5.heap.size w5 w7 := b7.trans (hb8.mono b7.size)
      go_wp2_with fail
      go_ret
      exact ⟨rfl, BW.out.trans (b8.mono (by omega))⟩
  · simp only [if_neg hn] at hsz
    go_enter Try.func11, Try.ntmps11
    go_wp2_with (go_at_call 23; refine (hsz.out _).mono ?_; rintro e w2 ⟨rfl, hb2⟩)
    go_ret
    exact ⟨rfl, below_via hb2 ((Below.refl _ _).alloc (Nat.le_refl _) _) (by simp)⟩

/-! The row's step. -/
theorem own : ownKnob Try.prog.godebug = none := by kernel_rfl
theorem laidOut : laidOutB Try.prog = true := by kernel_rfl
set_option maxRecDepth 100000 in
theorem lifted (os : Os) (started : os.Started) (H : Type) (enc : TypeId × Value → H) :
    ReturnsInHanded {} Try.checked os 11 .any (Rows.fnExactCoverAtSpec.pre6 enc Try.prog Try.f11 Rows.fnExactCoverAtRow.domain false) (Rows.fnExactCoverAtSpec.post enc Try.prog Try.f11 false true false false) := by
  refine returnsInHanded_of_change (C := Try.checked) own started (by kernel_rfl) Try.func11
    (ChangeSpec.witness6 (enc := enc) (C := Try.checked) false ⟨#[], #[.agg #[.int .i64 0, .int .i64 0, .bool false, .slice none 0 0], .int .i64 0], []⟩ 8 (by kernel_rfl) (by kernel_rfl) (by kernel_rfl) (by kernel_rfl)) ?_
  intro W base args ds gs before hval0 hW hcnd _
  have hval : ∀ (j : Nat) t v, Try.f11.params[j]? = some t → args[j]? = some v → Value.okWide Try.prog W .any base t v := hval0
  have hW' := hW
  obtain ⟨p, q, hA0, hV, rfl, hfz, hnd⟩ := hW
  have hA : DataW.TrodAll enc Try.prog W 0 (fun _ => true) true Try.f11.params.toList args.toList ds p := hA0
  rw [Try.params11] at hA hval
  obtain ⟨v0, vs0, d0, ds0, p0, q0, hargs, rfl, rfl, h0, r0⟩ := trodAll_cons hA
  obtain ⟨v1, vs1, d1, ds1, p1, q1, rfl, rfl, rfl, h1, r1⟩ := trodAll_cons r0
  obtain ⟨rfl, rfl, rfl⟩ := trodAll_nil r1
  obtain rfl : args = #[v0, v1] := by cases args; simp_all
  obtain ⟨rfl, rfl⟩ := trodVars_none hV
  have k0 := h0
  have lt0 : ∀ x ∈ p0, x.block < W.heap.size := by obtain ⟨m, hm⟩ := k0; exact DataW.trod_lt m _ _ _ hm
  obtain ⟨cL0, cG0, cH0, cS0, yL0, yG0, yH0, yS0, m0, rfl, -, -, hL0, hG0, hH0, hS0⟩ := Joins.open_agg4 Try.underlying41 (by kernel_rfl) (show Try.prog.cellsOf 41 = 4 by kernel_rfl) (hval 0 41 v0 rfl rfl) h0
  obtain ⟨L0, eL0, -, wL0⟩ := DataW.trod_int Try.underlying3 hL0
  obtain ⟨G0, eG0, -, wG0⟩ := DataW.trod_int Try.underlying3 hG0
  obtain ⟨H0, eH0, -⟩ := DataW.trod_bool Try.underlying4 hH0
  simp only [List.cons.injEq, and_true] at eL0 eG0 eH0
  subst eL0 eG0 eH0
  obtain ⟨ps0, n0, c0, rfl⟩ : ∃ ps n c, cS0 = .slice ps n c := by
    rcases Go.Deep.open_slice Try.underlying39 hS0 with ⟨e, -⟩ | ⟨a, l, c, _, _, _, _, e, -⟩
    · simp at e; exact ⟨_, _, _, e⟩
    · simp at e; exact ⟨_, _, _, e⟩
  obtain ⟨g0, o0, z0, nc0, cm0, fl0, -⟩ := open_rows Try.underlying39 Try.underlying92 (by kernel_rfl) (show Try.prog.cellsOf 92 = 3 by kernel_rfl) rfl (by decide) Try.underlying3 (by kernel_rfl) hS0
  have k1 := h1
  have lt1 : ∀ x ∈ p1, x.block < W.heap.size := by obtain ⟨m, hm⟩ := k1; exact DataW.trod_lt m _ _ _ hm
  obtain ⟨a1, rfl, -, -, w1⟩ := open_int Try.underlying3 (hval 1 3 v1 rfl rfl) h1
  clear hA0 hval0
  refine (walk L0 G0 H0 ps0 c0 g0 o0 n0 z0 a1 W nc0 cm0 fl0 wL0 wG0 w1).mono fun e W' ⟨he, bel⟩ => ?_
  subst he
  exact ⟨_, rfl, _, _, _, [], _, [], hW', trodAll_mk1 (shut_bool Try.underlying4 _), (trodAll_cons_mk (Below.trod laidOut (by kernel_rfl) (of_decide_eq_true (by kernel_rfl)) k0 bel lt0) (trodAll_cons_mk (Below.trod laidOut (by kernel_rfl) (of_decide_eq_true (by kernel_rfl)) k1 bel lt1) trodAll_mk0)), rfl, bel.frame _, fun h => by cases h⟩

theorem over : Rows.fnExactCoverAtRow.holds Try.pinned (OpenSpec.ofChange Rows.fnExactCoverAtSpec) :=
  OpenClaim.holds_of_wide 11 Try.f11 rfl rfl rfl rfl rfl rfl rfl ⟨rfl, rfl, rfl, rfl, rfl⟩ rfl rfl rfl rfl rfl (by kernel_rfl) Try.func11 (by kernel_rfl)
    (of_decide_eq_true (by kernel_rfl)) (by unfold Func.isWrapper; first | (rw [if_pos (by decide +kernel)]; kernel_rfl) | (rw [if_neg (by decide +kernel)]; exact ⟨rfl, rfl⟩))
    (fun os started H enc _ => lifted os started H enc)

/-- The statement. -/
theorem proved : Rows.FnExactCoverAtSaid := over
#print axioms proved
end Go.Proofs.Ytfeofokcidfffaa.fnExactCoverAt
