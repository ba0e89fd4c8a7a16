/- For all arguments the exact law of LaneFor returns true, and the arguments read as before. No condition. -/
import Derived.Test.YtokhkcebdbopcaaRows
import Derived.Test.YtokhkcebdbopcaaStoreLaw
import Derived.Test.YtokhkcebdbopcaaLaneForS
import Derived.Test.YtokhkcebdbopcaaLaneForI
import Derived.Deep.CutRange
import Derived.Deep.RegionWith
import Derived.OpenShut
import Derived.ChangeOld
import Derived.Lib.SmallJoins
namespace Go.Proofs.Ytokhkcebdbopcaa.fnExactLaneFor
open Go.ChangeShapes Go.WideShapes Go.ChangeAt Go.RowKit Go.Deep
set_option linter.unusedVariables false

theorem cells2 {w : World} {k : Nat} {a b : Value} {t : TypeId} (h : w.heap[k]? = some (.cells #[a, b] t (0, 0))) : w.cell? ⟨k, 0, none⟩ = some a ∧ w.cell? ⟨k, 1, none⟩ = some b :=
  ⟨by simp [World.cell?, h], by simp [World.cell?, h]⟩

set_option maxRecDepth 100000 in
set_option maxHeartbeats 4000000 in
theorem walk (D : Int) (p : Option Addr) (c n : Nat) (nn : Nat → Nat) (xx : Nat → Nat → Int) (a1 : Int) (a2 : Int) (w : World) (hnx : n ≤ maxLen) (hmx : ∀ i, i < n → nn i ≤ maxLen) (h : LRd w (.slice p n c) n nn xx) (hwx : ∀ i, i < n → ∀ j, j < nn i * 2 → (Lit.int .i64 (xx i j)).wf = true) (wD : (Lit.int .i64 D).wf = true) (wa1 : (Lit.int .i64 a1).wf = true) (wa2 : (Lit.int .i64 a2).wf = true) :
    Calls Try.prog 4 #[.agg #[.int .i64 D, .slice p n c], .int .i64 a1, .int .i64 a2] w fun e w' => e = .returned (.bool true) ∧ Below w.heap.size w w' := by
  have hsz := Lib.hid (fun W (hW : Below w.heap.size w W) => szStore_any n p c 1048576 (by omega) hnx nn hmx xx D W (h.later hW))
  by_cases hN : n + tot nn n ≤ 1048576
  rotate_left
  · simp only [if_neg hN] at hsz
    go_enter Try.func4, Try.ntmps4
    go_wp2_with (go_at_call 15; refine (hsz.out _ (by repeat (first | exact Below.refl _ _ | refine Below.alloc ?_ (by simp <;> omega) _ | refine Below.drew ?_))).mono ?_; rintro e w2 ⟨rfl, hb2⟩)
    go_ret
    exact ⟨rfl, below_via hb2 (by repeat (first | exact Below.refl _ _ | refine Below.alloc ?_ (by simp <;> omega) _ | refine Below.drew ?_)) (by simp)⟩
  simp only [if_pos hN] at hsz
  have hn : n ≤ 1048576 := by omega
  have hm2 : ∀ i, i < n → nn i ≤ 1048576 := fun i hi => by have := tot_one (nn := nn) hi; omega
  obtain ⟨I0, hS, hI⟩ : ∃ (I0 : Int), Hid (∀ (W : World) (p : Option Addr) (c : Nat), LRs W (.slice p n c) n nn xx → Calls Try.prog 20 #[.agg #[.int .i64 D, .slice p n c], .int .i64 a1, .int .i64 a2] W fun e w' => e = .returned (.int .i64 I0) ∧ Below W.heap.size W w') ∧ Hid (∀ (W : World) (p : Option Addr) (c : Nat), LRs W (.slice p n c) n nn xx → Calls Try.prog 21 #[.agg #[.int .i64 D, .slice p n c], .int .i64 a1, .int .i64 a2] W fun e w' => e = .returned (.int .i64 I0) ∧ Below W.heap.size W w') := ⟨lfr D n nn xx a1 a2, fun W p c hr => sLaneFor_any D n hnx p c nn hmx xx a1 a2 W hr.rd, fun W p c hr => iLaneFor_any D n hnx p c nn hmx xx a1 a2 W hr.rd hwx⟩
  have H0 := Lib.hid h
  have HM := Lib.hid hm2
  have hto := Lib.hid (fun W (hW : Below w.heap.size w W) => toStore_any n hn p c nn hm2 xx D W (h.later hW))
  have heq := Lib.hid (fun W pa pb ca cb ha hb => eqStore_any n hn pa pb ca cb nn hm2 xx D W ha hb)
  clear h hm2 hwx hmx hN
  go_enter Try.func4, Try.ntmps4
  have BW := Lib.hid (Below.refl w.heap.size w)
  have hcon := Lib.hid (fun W (hW : Below w.heap.size w W) => hsz.out W hW)
  go_wp2_with fail
  refine (hcon.out _ (by repeat (first | exact Below.refl _ _ | refine Below.alloc ?_ (by simp <;> omega) _ | refine Below.drew ?_))).mono ?_
  clear hcon
  rintro e w1 ⟨rfl, hb⟩
  have cc : Below w.heap.size w w1 := below_via hb (by repeat (first | exact Below.refl _ _ | refine Below.alloc ?_ (by simp <;> omega) _ | refine Below.drew ?_)) (by simp <;> omega)
  have szw1 : w.heap.size + 1 ≤ w1.heap.size := by have := hb.size; first | omega | (simp at this; omega)
  have XA : Hid (w1.heap[w.heap.size]? = some (.cells #[.int .i64 D, .slice p n c] 24 (0, 0))) := (hb.block (w.heap.size) (by simp <;> omega)).trans (heap_new _ _ _ (by simp))
  have BV := Lib.hid (BW.out.trans (cc.mono (by have := BW.out.size; omega)))
  clear BW
  have BW := BV
  clear BV
  clear cc hb
  obtain ⟨xA0, xA1⟩ := cells2 XA.out
  have hcon := Lib.hid (fun W (hW : Below w1.heap.size w1 W) => hto.out W (BW.out.trans (hW.mono (by have := BW.out.size; omega))))
  go_wp2_with fail
  refine (hcon.out _ (by repeat (first | exact Below.refl _ _ | refine Below.alloc ?_ (by simp <;> omega) _ | refine Below.drew ?_))).mono ?_
  clear hcon
  rintro e w2 ⟨pa, ca, rfl, hr, hb⟩
  have cc : Below w1.heap.size w1 w2 := below_via hb (by repeat (first | exact Below.refl _ _ | refine Below.alloc ?_ (by simp <;> omega) _ | refine Below.drew ?_)) (by simp <;> omega)
  have szw2 : w1.heap.size ≤ w2.heap.size := by have := hb.size; first | omega | (simp at this; omega)
  clear xA0 xA1
  have YA := Lib.hid ((cc.block (w.heap.size) (by omega)).trans XA.out)
  clear XA
  have XA := YA
  clear YA
  have BV := Lib.hid (BW.out.trans (cc.mono (by have := BW.out.size; omega)))
  clear BW
  have BW := BV
  clear BV
  have Oa := Lib.hid (hr.wide (show w1.heap.size ≤ _ by simp) (Nat.le_refl _))
  clear hr cc hb
  obtain ⟨xA0, xA1⟩ := cells2 XA.out
  have hcon := Lib.hid (fun W (hW : Below w2.heap.size w2 W) => hS.out W pa ca ((Oa.out.below hW (by omega)).rds (by have := hW.size; omega)))
  go_wp2_with fail
  refine (hcon.out _ (by repeat (first | exact Below.refl _ _ | refine Below.alloc ?_ (by simp <;> omega) _ | refine Below.drew ?_))).mono ?_
  clear hcon
  rintro e w3 ⟨rfl, hb⟩
  have cc : Below w2.heap.size w2 w3 := below_via hb (by repeat (first | exact Below.refl _ _ | refine Below.alloc ?_ (by simp <;> omega) _ | refine Below.drew ?_)) (by simp <;> omega)
  have szw3 : w2.heap.size ≤ w3.heap.size := by have := hb.size; first | omega | (simp at this; omega)
  clear Oa
  clear xA0 xA1
  have YA := Lib.hid ((cc.block (w.heap.size) (by omega)).trans XA.out)
  clear XA
  have XA := YA
  clear YA
  have BV := Lib.hid (BW.out.trans (cc.mono (by have := BW.out.size; omega)))
  clear BW
  have BW := BV
  clear BV
  clear cc hb
  obtain ⟨xA0, xA1⟩ := cells2 XA.out
  have hcon := Lib.hid (fun W (hW : Below w3.heap.size w3 W) => hto.out W (BW.out.trans (hW.mono (by have := BW.out.size; omega))))
  go_wp2_with fail
  refine (hcon.out _ (by repeat (first | exact Below.refl _ _ | refine Below.alloc ?_ (by simp <;> omega) _ | refine Below.drew ?_))).mono ?_
  clear hcon
  rintro e w4 ⟨pb, cb, rfl, hr, hb⟩
  have cc : Below w3.heap.size w3 w4 := below_via hb (by repeat (first | exact Below.refl _ _ | refine Below.alloc ?_ (by simp <;> omega) _ | refine Below.drew ?_)) (by simp <;> omega)
  have szw4 : w3.heap.size ≤ w4.heap.size := by have := hb.size; first | omega | (simp at this; omega)
  clear xA0 xA1
  have YA := Lib.hid ((cc.block (w.heap.size) (by omega)).trans XA.out)
  clear XA
  have XA := YA
  clear YA
  have BV := Lib.hid (BW.out.trans (cc.mono (by have := BW.out.size; omega)))
  clear BW
  have BW := BV
  clear BV
  have Ob := Lib.hid (hr.wide (show w3.heap.size ≤ _ by simp) (Nat.le_refl _))
  clear hr cc hb
  obtain ⟨xA0, xA1⟩ := cells2 XA.out
  have hcon := Lib.hid (fun W (hW : Below w4.heap.size w4 W) => hI.out W pb cb ((Ob.out.below hW (by omega)).rds (by have := hW.size; omega)))
  go_wp2_with fail
  refine (hcon.out _ (by repeat (first | exact Below.refl _ _ | refine Below.alloc ?_ (by simp <;> omega) _ | refine Below.drew ?_))).mono ?_
  clear hcon
  rintro e w5 ⟨rfl, hb⟩
  have cc : Below w4.heap.size w4 w5 := below_via hb (by repeat (first | exact Below.refl _ _ | refine Below.alloc ?_ (by simp <;> omega) _ | refine Below.drew ?_)) (by simp <;> omega)
  have szw5 : w4.heap.size + 1 ≤ w5.heap.size := by have := hb.size; first | omega | (simp at this; omega)
  clear xA0 xA1
  have YA := Lib.hid ((cc.block (w.heap.size) (by omega)).trans XA.out)
  have XB : Hid (w5.heap[w4.heap.size]? = some (.cells #[.int .i64 D, .slice pb n cb] 29 (0, 0))) := (hb.block (w4.heap.size) (by simp <;> omega)).trans (heap_new _ _ _ (by simp))
  clear XA
  have XA := YA
  clear YA
  have Pb := Lib.hid (Ob.out.below cc (by omega))
  clear Ob
  have Ob := Pb
  clear Pb
  have BV := Lib.hid (BW.out.trans (cc.mono (by have := BW.out.size; omega)))
  clear BW
  have BW := BV
  clear BV
  clear cc hb
  obtain ⟨xA0, xA1⟩ := cells2 XA.out
  obtain ⟨xB0, xB1⟩ := cells2 XB.out
  have hne0 : (I0 != I0) = false := by simp
  have hto2 := Lib.hid (fun W (hW : Below w5.heap.size w5 W) => hto.out W (BW.out.trans (hW.mono (by have := BW.out.size; omega))))
  have heq2 := Lib.hid (fun W (hW : Below w5.heap.size w5 W) (p7 : Option Addr) (c7 : Nat) (h7 : LRd W (.slice p7 n c7) n nn xx) => heq.out W pb p7 cb c7 ((Ob.out.below hW (by omega)).rd (by have := hW.size; omega)) h7)
  go_wp2_with fail
  go_region_with (first | (go_at_call 17; refine (hto2.out _ (by repeat (first | exact Below.refl _ _ | refine Below.alloc ?_ (by simp <;> omega) _ | refine Below.drew ?_))).mono ?_; rintro e w6 ⟨p7, c7, rfl, ho7, hb7⟩; have xb7 := (hb7.block (w4.heap.size) (by simp <;> omega)).trans XB.out; obtain ⟨y0, y1⟩ := cells2 xb7; clear xb7) | (go_at_call 19; refine (heq2.out _ (below_via hb7 (by repeat (first | exact Below.refl _ _ | refine Below.alloc ?_ (by simp <;> omega) _ | refine Below.drew ?_)) (by simp <;> omega)) p7 c7 (ho7.rd (Nat.le_refl _))).mono ?_; rintro e w7 ⟨rfl, hb8⟩))
  all_goals
    have b7 : Below w5.heap.size w5 w6 := below_via hb7 (by repeat (first | exact Below.refl _ _ | refine Below.alloc ?_ (by simp <;> omega) _ | refine Below.drew ?_)) (by simp <;> omega)
    have b8 : Below w5.heap.size w5 w7 := b7.trans (hb8.mono b7.size)
    go_wp2_with fail
    go_ret
    exact ⟨rfl, BW.out.trans (b8.mono (by have := BW.out.size; omega))⟩

/-! The row's step. -/
theorem own : ownKnob Try.prog.godebug = none := by kernel_rfl
theorem laidOut : laidOutB Try.prog = true := by kernel_rfl
set_option maxRecDepth 100000 in
theorem lifted (os : Os) (started : os.Started) (H : Type) (enc : TypeId × Value → H) :
    ReturnsInHanded {} Try.checked os 4 .any (Rows.fnExactLaneForSpec.pre6 enc Try.prog Try.f4 Rows.fnExactLaneForRow.domain false) (Rows.fnExactLaneForSpec.post enc Try.prog Try.f4 false true false false) := by
  refine returnsInHanded_of_change (C := Try.checked) own started (by kernel_rfl) Try.func4
    (ChangeSpec.witness6 (enc := enc) (C := Try.checked) false ⟨#[], #[.agg #[.int .i64 0, .slice none 0 0], .int .i64 0, .int .i64 0], []⟩ 8 (by kernel_rfl) (by kernel_rfl) (by kernel_rfl) (by kernel_rfl)) ?_
  intro W base args ds gs before hval0 hW hcnd _
  have hval : ∀ (j : Nat) t v, Try.f4.params[j]? = some t → args[j]? = some v → Value.okWide Try.prog W .any base t v := hval0
  have hW' := hW
  obtain ⟨p, q, hA0, hV, rfl, hfz, hnd⟩ := hW
  have hA : DataW.TrodAll enc Try.prog W 0 (fun _ => true) true Try.f4.params.toList args.toList ds p := hA0
  rw [Try.params4] at hA hval
  obtain ⟨v0, vs0, d0, ds0, p0, q0, hargs, rfl, rfl, h0, r0⟩ := trodAll_cons hA
  obtain ⟨v1, vs1, d1, ds1, p1, q1, rfl, rfl, rfl, h1, r1⟩ := trodAll_cons r0
  obtain ⟨v2, vs2, d2, ds2, p2, q2, rfl, rfl, rfl, h2, r2⟩ := trodAll_cons r1
  obtain ⟨rfl, rfl, rfl⟩ := trodAll_nil r2
  obtain rfl : args = #[v0, v1, v2] := by cases args; simp_all
  obtain ⟨rfl, rfl⟩ := trodVars_none hV
  have k0 := h0
  have lt0 : ∀ x ∈ p0, x.block < W.heap.size := by obtain ⟨m, hm⟩ := k0; exact DataW.trod_lt m _ _ _ hm
  obtain ⟨cD, cS, yD, yS, m0, rfl, -, -, hD, hSl⟩ := Joins.open_agg2 Try.underlying24 (by kernel_rfl) (show Try.prog.cellsOf 24 = 2 by kernel_rfl) (hval 0 24 v0 rfl rfl) h0
  obtain ⟨D, eD, -, wD⟩ := DataW.trod_int Try.underlying3 hD
  simp only [List.cons.injEq, and_true] at eD
  subst eD
  obtain ⟨ps, n, c, rfl⟩ : ∃ ps n c, cS = .slice ps n c := by
    rcases Go.Deep.open_slice Try.underlying22 hSl with ⟨e, -⟩ | ⟨a, l, c, _, _, _, _, e, -⟩
    · simp at e; exact ⟨_, _, _, e⟩
    · simp at e; exact ⟨_, _, _, e⟩
  obtain ⟨nn, xx, hn, hm, hl, hw⟩ := lanes_open Try.underlying22 Try.underlying101 (by kernel_rfl) Try.underlying118 (by kernel_rfl) (show Try.prog.cellsOf 118 = 2 by kernel_rfl) rfl Try.underlying3 (by kernel_rfl) ⟨m0, by simpa [Value.cells] using hSl⟩
  have k1 := h1
  have lt1 : ∀ x ∈ p1, x.block < W.heap.size := by obtain ⟨m, hm⟩ := k1; exact DataW.trod_lt m _ _ _ hm
  obtain ⟨a1, rfl, -, -, wa1⟩ := open_int Try.underlying3 (hval 1 3 v1 rfl rfl) h1
  have k2 := h2
  have lt2 : ∀ x ∈ p2, x.block < W.heap.size := by obtain ⟨m, hm⟩ := k2; exact DataW.trod_lt m _ _ _ hm
  obtain ⟨a2, rfl, -, -, wa2⟩ := open_int Try.underlying3 (hval 2 3 v2 rfl rfl) h2
  clear hA0 hval0
  refine (walk D ps c n nn xx a1 a2 W hn hm hl hw wD wa1 wa2).mono fun e W' ⟨he, bel⟩ => ?_
  subst he
  exact ⟨_, rfl, _, _, _, [], _, [], hW', trodAll_mk1 (shut_bool Try.underlying4 _), (trodAll_cons_mk (Below.trod laidOut (by kernel_rfl) (of_decide_eq_true (by kernel_rfl)) k0 bel lt0) (trodAll_cons_mk (Below.trod laidOut (by kernel_rfl) (of_decide_eq_true (by kernel_rfl)) k1 bel lt1) (trodAll_cons_mk (Below.trod laidOut (by kernel_rfl) (of_decide_eq_true (by kernel_rfl)) k2 bel lt2) trodAll_mk0))), rfl, bel.frame _, fun h => by cases h⟩

theorem over : Rows.fnExactLaneForRow.holds Try.pinned (OpenSpec.ofChange Rows.fnExactLaneForSpec) :=
  OpenClaim.holds_of_wide 4 Try.f4 rfl rfl rfl rfl rfl rfl rfl ⟨rfl, rfl, rfl, rfl, rfl⟩ rfl rfl rfl rfl rfl (by kernel_rfl) Try.func4 (by kernel_rfl)
    (of_decide_eq_true (by kernel_rfl)) (by unfold Func.isWrapper; first | (rw [if_pos (by decide +kernel)]; kernel_rfl) | (rw [if_neg (by decide +kernel)]; exact ⟨rfl, rfl⟩))
    (fun os started H enc _ => lifted os started H enc)

/-- The statement. -/
theorem proved : Rows.FnExactLaneForSaid := over
#print axioms proved
end Go.Proofs.Ytokhkcebdbopcaa.fnExactLaneFor
