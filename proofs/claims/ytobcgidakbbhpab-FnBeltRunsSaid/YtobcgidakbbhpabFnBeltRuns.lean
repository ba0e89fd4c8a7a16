/- For every belt and every number of steps the law FnBeltRuns returns true, and the arguments read as before. No condition. -/
import Derived.Test.YtobcgidakbbhpabRows
import Derived.Test.YtobcgidakbbhpabRunI
import Derived.Test.YtobcgidakbbhpabRunS
import Derived.Test.YtobcgidakbbhpabRunLaw
import Derived.Test.YtobcgidakbbhpabSameBelt
import Derived.Test.YtobcgidakbbhpabSameExits
import Derived.Test.YtobcgidakbbhpabLater
import Derived.Test.YtobcgidakbbhpabOpen
import Derived.OpenShut
import Derived.ChangeOld
import Derived.Lib.SmallJoins
namespace Go.Proofs.Ytobcgidakbbhpab.fnBeltRuns
open Go.ChangeShapes Go.WideShapes Go.ChangeAt Go.RowKit
set_option linter.unusedVariables false

theorem bx_later {w w' : World} {k : Nat} {o : Obj} (h : w.heap[k]? = some o) (hb : Below w.heap.size w w') : w'.heap[k]? = some o := (hb.block k (Array.getElem?_eq_some_iff.1 h).1).trans h

set_option maxRecDepth 100000 in
set_option maxHeartbeats 8000000 in
theorem walk (L G : Int) (H : Bool) (p : Option Addr) (c n : Nat) (z : Nat → Int) (s : Int) (w : World) (hm : n ≤ maxLen) (hrd : Rd w (.slice p n c) n (n * 3) z) (wL : (Lit.int .i64 L).wf = true) (wG : (Lit.int .i64 G).wf = true) (ws : (Lit.int .i64 s).wf = true) :
    Calls Try.prog 4 #[.agg #[.int .i64 L, .int .i64 G, .bool H, .slice p n c], .int .i64 s] w fun e w' => e = .returned (.bool true) ∧ Below w.heap.size w w' := by
  obtain ⟨p0, c0, g, o, e, hnc, h⟩ := hrd
  injection e with e1 _ e3
  subst e1; subst e3
  have hbo := Lib.hid (fun W (hb : Below w.heap.size w W) => sBeltOk_any n hm z p c g o L G H W ((h.below hb (Nat.le_refl _)).wide (Nat.zero_le _) hb.size))
  by_cases hall : okB L G n z = true ∧ 0 ≤ s ∧ s ≤ 2000
  rotate_left
  · rcases Bool.eq_false_or_eq_true (okB L G n z) with hk | hk
    · simp only [hk] at hbo
      rcases (show s < 0 ∨ (0 ≤ s ∧ 2000 < s) by
        have : ¬ (0 ≤ s ∧ s ≤ 2000) := fun hh => hall ⟨hk, hh⟩
        omega) with q | ⟨q0, q⟩
      all_goals
        clear hall hk h
        go_enter Try.func4, Try.ntmps4
        go_wp2_with (go_at_call 25; refine (hbo.out _ (by repeat (first | exact Below.refl _ _ | refine Below.alloc ?_ (by simp <;> omega) _ | refine Below.setCell ?_ (by simp <;> omega) _ | refine Below.drew ?_))).mono ?_; rintro e w2 ⟨rfl, hb2⟩; have HW2 := Lib.hid (below_via hb2 (B := w.heap.size) (w := w) (by repeat (first | exact Below.refl _ _ | refine Below.alloc ?_ (by simp <;> omega) _ | refine Below.setCell ?_ (by simp <;> omega) _ | refine Below.drew ?_)) (by simp <;> omega)))
        go_ret
        exact ⟨rfl, HW2.out⟩
    · simp only [hk] at hbo
      clear hall hk h
      go_enter Try.func4, Try.ntmps4
      go_wp2_with (go_at_call 25; refine (hbo.out _ (by repeat (first | exact Below.refl _ _ | refine Below.alloc ?_ (by simp <;> omega) _ | refine Below.setCell ?_ (by simp <;> omega) _ | refine Below.drew ?_))).mono ?_; rintro e w2 ⟨rfl, hb2⟩; have HW2 := Lib.hid (below_via hb2 (B := w.heap.size) (w := w) (by repeat (first | exact Below.refl _ _ | refine Below.alloc ?_ (by simp <;> omega) _ | refine Below.setCell ?_ (by simp <;> omega) _ | refine Below.drew ?_)) (by simp <;> omega)))
      go_ret
      exact ⟨rfl, HW2.out⟩
  obtain ⟨hk, hs0, hs1⟩ := hall
  obtain ⟨S, rfl⟩ : ∃ S : Nat, s = (S : Int) := ⟨s.toNat, by omega⟩
  have hok : OkP L G n z := okB_iff.1 hk
  have HOK := Lib.hid hok
  have hn40 : n ≤ 40 := hok.2.2.1
  have hokR := ru_ok (H := H) hok S
  obtain ⟨cc, hcn, hNc, hgone, hstay⟩ := ru_law (H := H) hok S
  have hri := Lib.hid (fun W (hb : Below w.heap.size w W) => iRun_ok n z p c g o L G H S (by omega) W ((h.below hb (Nat.le_refl _)).wide (Nat.zero_le _) hb.size) hnc hok)
  have hrs := Lib.hid (fun W (hb : Below w.heap.size w W) => sRun_ok n (by omega) z p c g o L G H W ((h.below hb (Nat.le_refl _)).wide (Nat.zero_le _) hb.size) S (by omega) hok)
  obtain ⟨N, hN⟩ : ∃ N, N = (ru L G H n z S).n := ⟨_, rfl⟩
  obtain ⟨Z, hZ⟩ : ∃ Z, Z = (ru L G H n z S).z := ⟨_, rfl⟩
  obtain ⟨l, hl⟩ : ∃ l, l = (ru L G H n z S).l := ⟨_, rfl⟩
  rw [← hN, ← hZ] at hokR
  rw [← hN] at hNc
  rw [← hl] at hgone
  rw [← hN, ← hZ, ← hl] at hri hrs
  rw [show n - N = cc by omega] at hri hrs
  obtain ⟨X, hX⟩ : ∃ X : Nat → Int, X = fun j => l.getD j 0 := ⟨_, rfl⟩
  rw [← hX] at hri hrs
  have hgone' : ∀ i, i < cc → H = false ∧ L - z (i * 3 + 1) < (S : Int) ∧ X (i * 2) = z (i * 3) ∧ X (i * 2 + 1) = L - z (i * 3 + 1) := fun i hi => by rw [hX]; exact hgone i hi
  have HGONE := Lib.hid hgone'
  have HSTAY := Lib.hid hstay
  have HOKR := Lib.hid hokR
  have HF := Lib.hid h
  clear hN hZ hl hX hgone hgone' hstay hokR l h hok
  simp only [hk] at hbo
  clear hk
  go_enter Try.func4, Try.ntmps4
  go_wp2_with (go_at_call 25; refine (hbo.out _ (by repeat (first | exact Below.refl _ _ | refine Below.alloc ?_ (by simp <;> omega) _ | refine Below.setCell ?_ (by simp <;> omega) _ | refine Below.drew ?_))).mono ?_; rintro e w2 ⟨rfl, hb2⟩; have X2 := Lib.hid ((hb2.block w.heap.size (by simp)).trans (heap_new _ _ _ rfl)); have B2 := Lib.hid (below_via hb2 (B := w.heap.size) (w := w) (by repeat (first | exact Below.refl _ _ | refine Below.alloc ?_ (by simp <;> omega) _ | refine Below.setCell ?_ (by simp <;> omega) _ | refine Below.drew ?_)) (by simp <;> omega)); have hs2 : w.heap.size < w2.heap.size := (by have := hb2.size; simp at this; omega); obtain ⟨x0, x1, x2, x3, -, -, -, -⟩ := cells4 X2.out; clear hb2)
  have hcall := Lib.hid (hri.out w2 B2.out)
  refine hcall.out.mono ?_
  rintro e w3 ⟨px, cx, v, M, rfl, hM1, hM2, hO1, hO2, hb3⟩
  have B3 := Lib.hid (B2.out.trans (hb3.mono (by omega)))
  have X3 := Lib.hid (bx_later X2.out hb3)
  have RX3 := Lib.hid (hO1.rd hM2)
  have RV3 := Lib.hid (hO2.rd (Nat.le_refl _))
  have hs3 := hb3.size
  clear hcall hri hO1 hO2 hb3 X2 B2 hM1 hM2 hbo x0 x1 x2 x3
  obtain ⟨x0, x1, x2, x3, -, -, -, -⟩ := cells4 X3.out
  go_upto_region 4 with fail
  clear x0 x1 x2 x3
  obtain ⟨w4, hw4⟩ : ∃ xx, xx = w3.alloc (.cells #[.int .i64 L, .int .i64 G, .bool H, .slice px N cx] 28) := ⟨_, rfl⟩
  have hb : Below w3.heap.size w3 w4 := by rw [hw4]; exact (Below.refl _ _).alloc (Nat.le_refl _) _
  have T4 : Hid (w4.heap[w3.heap.size]? = some (.cells #[.int .i64 L, .int .i64 G, .bool H, .slice px N cx] 28 (0, 0))) := by rw [hw4]; exact heap_new _ _ _ rfl
  rw [← hw4]
  have hs4 : w3.heap.size < w4.heap.size := by rw [hw4]; simp
  clear hw4
  have B4 := Lib.hid (B3.out.trans (hb.mono (by omega)))
  have X4 := Lib.hid (bx_later X3.out hb)
  have RX4 := Lib.hid (RX3.out.later hb)
  have RV4 := Lib.hid (RV3.out.later hb)
  clear hb B3 X3 RX3 RV3
  obtain ⟨x0, x1, x2, x3, -, -, -, -⟩ := cells4 X4.out
  go_wp2_with fail
  clear x0 x1 x2 x3
  refine (hrs.out w4 B4.out).mono ?_
  rintro e w5 ⟨py, cy, u, rfl, hO1, hO2, hb5⟩
  have B5 := Lib.hid (B4.out.trans (hb5.mono (by omega)))
  have X5 := Lib.hid (bx_later X4.out hb5)
  have T5 := Lib.hid (bx_later T4.out hb5)
  have RX5 := Lib.hid (RX4.out.later hb5)
  have RV5 := Lib.hid (RV4.out.later hb5)
  have RY5 := Lib.hid (hO1.rd (Nat.le_refl _))
  have RU5 := Lib.hid (hO2.rd (Nat.le_refl _))
  have hs5 := hb5.size
  clear hb5 hO1 hO2 hrs B4 X4 T4 RX4 RV4
  obtain ⟨x0, x1, x2, x3, -, -, -, -⟩ := cells4 X5.out
  obtain ⟨t0, t1, t2, t3, -, -, -, -⟩ := cells4 T5.out
  go_upto_region 5 with fail
  clear x0 x1 x2 x3 t0 t1 t2 t3
  obtain ⟨w6, hw6⟩ : ∃ xx, xx = w5.alloc (.cells #[.int .i64 L, .int .i64 G, .bool H, .slice py N cy] 28) := ⟨_, rfl⟩
  have hb : Below w5.heap.size w5 w6 := by rw [hw6]; exact (Below.refl _ _).alloc (Nat.le_refl _) _
  have Y6 : Hid (w6.heap[w5.heap.size]? = some (.cells #[.int .i64 L, .int .i64 G, .bool H, .slice py N cy] 28 (0, 0))) := by rw [hw6]; exact heap_new _ _ _ rfl
  rw [← hw6]
  have hs6 : w5.heap.size < w6.heap.size := by rw [hw6]; simp
  clear hw6
  have B6 := Lib.hid (B5.out.trans (hb.mono (by omega)))
  have X6 := Lib.hid (bx_later X5.out hb)
  have T6 := Lib.hid (bx_later T5.out hb)
  have RX6 := Lib.hid (RX5.out.later hb)
  have RV6 := Lib.hid (RV5.out.later hb)
  have RY6 := Lib.hid (RY5.out.later hb)
  have RU6 := Lib.hid (RU5.out.later hb)
  clear hb B5 X5 T5 RX5 RV5 RY5 RU5
  have hsame := Lib.hid (show Calls Try.prog 26 #[.agg #[.int .i64 L, .int .i64 G, .bool H, .slice px N cx], .agg #[.int .i64 L, .int .i64 G, .bool H, .slice py N cy]] w6 fun e w' => e = .returned (.bool true) ∧ Below w6.heap.size w6 w' by
    obtain ⟨q1, q2, q3, q4, e, -, hf⟩ := RX6.out
    injection e with e1 _ e3
    subst e1; subst e3
    obtain ⟨r1, r2, r3, r4, e, -, hf2⟩ := RY6.out
    injection e with e1 _ e3
    subst e1; subst e3
    exact sameBelt_any N (by omega) Z px py cx cy q3 q4 r3 r4 L G H w6 hf hf2)
  have hex := Lib.hid (fun W (hW : Below w6.heap.size w6 W) => sameExits_v cc (by omega) X v u W (RV6.out.later hW) (RU6.out.later hW))
  obtain ⟨x0, x1, x2, x3, -, -, -, -⟩ := cells4 X6.out
  obtain ⟨t0, t1, t2, t3, -, -, -, -⟩ := cells4 T6.out
  obtain ⟨y0, y1, y2, y3, -, -, -, -⟩ := cells4 Y6.out
  go_wp2_with (first | (go_at_call 26; refine hsame.out.mono ?_; rintro e w7 ⟨rfl, hb7⟩; clear x0 x1 x2 x3 t0 t1 t2 t3 y0 y1 y2 y3) | (go_at_call 27; refine (hex.out _ hb7).mono ?_; rintro e w8 ⟨rfl, hb8⟩))
  have hb68 := hb7.trans (hb8.mono hb7.size)
  have B8 := Lib.hid (B6.out.trans (hb68.mono (by omega)))
  have X8 := Lib.hid (bx_later X6.out hb68)
  have T8 := Lib.hid (bx_later T6.out hb68)
  have RX8 := Lib.hid (RX6.out.later hb68)
  have RV8 := Lib.hid (RV6.out.later hb68)
  have hs8 := hb68.size
  clear hb7 hb8 hb68 hsame hex B6 X6 T6 Y6 RX6 RV6 RY6 RU6
  obtain ⟨pv, cv, gv, ov, rfl, hcv, hfv⟩ := RV8.out
  have HFV := Lib.hid hfv
  have HF8 := Lib.hid ((HF.out.below B8.out (Nat.le_refl _)).wide (Nat.zero_le _) B8.out.size)
  clear hfv RV8 HF
  go_loopw [9, 10] (fun kv iv wr => ∃ i k : Nat, i ≤ n ∧ iv = .int .i64 (i : Int) ∧ kv = .int .i64 (k : Int) ∧ k = min i cc ∧ Below w8.heap.size w8 wr) (fun _ iv _ => n - (intOf iv).toNat)
  case atStart => exact ⟨0, 0, by omega, rfl, rfl, by omega, Below.refl _ _⟩
  case round =>
    obtain ⟨i, k, hi, rfl, rfl, hk, hbr⟩ := hrel
    have hXr := bx_later X8.out hbr
    have hTr := bx_later T8.out hbr
    have HBR := Lib.hid hbr
    obtain ⟨x0, x1, x2, x3, -, -, -, -⟩ := cells4 hXr
    have HX := Lib.hid hXr
    have HT := Lib.hid hTr
    clear hXr hTr
    by_cases hin : i < n
    · obtain ⟨rfl, -, hg⟩ := HF8.out.1 (by omega)
      obtain ⟨a0, a1, a2⟩ := HF8.out.at3 hbr (Nat.le_refl _) i (by omega)
      have hi0 : (0 : Int) ≤ (i : Int) := by omega
      have hil : (i : Int) < (n : Int) := by omega
      have hwi : IntKind.i64.wrap ((i : Int) + 1) = (i : Int) + 1 := IntWalk.i64_in _ (by omega)
      have hfr := HOK.out.front hin
      have hL := HOK.out.1
      have hG1 := HGONE.out i
      have hG2 := HSTAY.out i
      obtain ⟨y0, hy0⟩ : ∃ y, y = z (i * 3) := ⟨_, rfl⟩
      obtain ⟨y1, hy1⟩ : ∃ y, y = z (i * 3 + 1) := ⟨_, rfl⟩
      obtain ⟨y2, hy2⟩ : ∃ y, y = z (i * 3 + 2) := ⟨_, rfl⟩
      rw [← hy0] at a0
      rw [← hy1] at a1
      rw [← hy2] at a2
      rw [← hy0, ← hy1] at hG1
      rw [← hy1] at hG2
      rw [← hy0, ← hy1, ← hy2] at hfr
      obtain ⟨h1, h2, h3, h4, h5, h6⟩ := hfr
      have hwd : IntKind.i64.wrap (L - y1) = L - y1 := IntWalk.i64_in _ (by omega)
      have HL := Lib.hid (And.intro hL (And.intro h5 (And.intro h4 h2)))
      clear hy0 hy1 hy2 h1 h2 h3 h4 h5 h6 hL hbr
      go_wp2_with fail
      go_quiet (fail)
      generalize hwq : wr.drewN nq = w9
      have B9 : Below wr.heap.size wr w9 := by rw [← hwq]; exact below_drewN' (Below.refl _ _) _
      have X9 := Lib.hid (bx_later HX.out B9)
      have a0' := (B9.cell (p := ⟨g, o + i * 3, none⟩) (by have := HBR.out.size; show g < _; omega)).trans a0
      have HB9 := Lib.hid (HBR.out.trans (B9.mono HBR.out.size))
      clear x0 x1 x2 x3 a0 a1 a2 hwq B9 HBR
      obtain ⟨x0, x1, x2, x3, -, -, -, -⟩ := cells4 X9.out
      by_cases hic : i < cc
      · obtain ⟨rfl, g1, g2, g3⟩ := hG1 hic
        obtain rfl : k = i := by omega
        clear hk
        have hdge : decide ((S : Int) ≤ L - y1) = false := decide_eq_false (by omega)
        obtain ⟨rfl, -, hgv⟩ := HFV.out.1 (by omega)
        obtain ⟨b0, b1⟩ := HFV.out.at2 HB9.out (Nat.le_refl _) k (by omega)
        rw [g2] at b0
        rw [g3] at b1
        have hcl : (k : Int) < (cc : Int) := by omega
        have hcg : decide ((cc : Int) ≤ (k : Int)) = false := decide_eq_false (by omega)
        have hr : ((L - y1) != (L - y1)) = false := by simp
        have hr0 : (y0 != y0) = false := by simp
        clear hG1 hG2 g1 g2 g3
        go_wp2_with fail
        go_quiet (fail)
        go_wp2_with fail
        go_roundw
        case rel => exact ⟨k + 1, k + 1, by omega, by congr 1, by congr 1, by omega, below_drewN' HB9.out _⟩
        case measure => simp only [intOf]; omega
      · rcases hG2 (by omega) hin with rfl | hge
        · clear hG1 hG2
          go_wp2_with fail
          go_roundw
          case rel => exact ⟨i + 1, k, by omega, by congr 1, rfl, by omega, HB9.out⟩
          case measure => simp only [intOf]; omega
        · have hdge : decide ((S : Int) ≤ L - y1) = true := decide_eq_true (by omega)
          clear hG1 hG2
          cases H
          all_goals
            go_wp2_with fail
            go_roundw
            case rel => exact ⟨i + 1, k, by omega, by congr 1, rfl, by omega, HB9.out⟩
            case measure => simp only [intOf]; omega
    · obtain rfl : i = n := by omega
      obtain rfl : k = cc := by omega
      clear hk
      obtain ⟨t0, t1, t2, t3, -, -, -, -⟩ := cells4 HT.out
      have hib := Lib.hid (show Calls Try.prog 28 #[.agg #[.int .i64 L, .int .i64 G, .bool H, .slice px N cx]] wr fun e w' => e = .returned (.bool true) ∧ Below wr.heap.size wr w' by
        obtain ⟨q1, q2, q3, q4, e, hq, hf⟩ := RX8.out.later hbr
        injection e with e1 _ e3
        subst e1; subst e3
        have := iBeltOk_any N (by unfold maxLen; omega) Z px cx q3 q4 L G H wr hf hq
        rwa [okB_yes HOKR.out] at this)
      have hsz : ((N : Int) + (k : Int)) = (i : Int) := by omega
      have hwz : IntKind.i64.wrap ((N : Int) + (k : Int)) = (i : Int) := by rw [hsz]; exact IntWalk.i64_in _ (by omega)
      clear hsz
      go_wp2_with (go_at_call 28; refine hib.out.mono ?_; rintro e w9 ⟨rfl, hb9⟩; clear x0 x1 x2 x3 t0 t1 t2 t3; obtain ⟨x0, x1, x2, x3, -, -, -, -⟩ := cells4 (bx_later HX.out hb9); obtain ⟨t0, t1, t2, t3, -, -, -, -⟩ := cells4 (bx_later HT.out hb9))
      go_ret
      exact ⟨rfl, B8.out.trans ((HBR.out.trans (hb9.mono HBR.out.size)).mono (by have := B8.out.size; omega))⟩

/-! The row's step. -/
theorem own : ownKnob Try.prog.godebug = none := by kernel_rfl
theorem laidOut : laidOutB Try.prog = true := by kernel_rfl
set_option maxRecDepth 100000 in
theorem lifted (os : Os) (started : os.Started) (H : Type) (enc : TypeId × Value → H) :
    ReturnsInHanded {} Try.checked os 4 .any (Rows.fnBeltRunsSpec.pre6 enc Try.prog Try.f4 Rows.fnBeltRunsRow.domain false) (Rows.fnBeltRunsSpec.post enc Try.prog Try.f4 false true false false) := by
  refine returnsInHanded_of_change (C := Try.checked) own started (by kernel_rfl) Try.func4
    (ChangeSpec.witness6 (enc := enc) (C := Try.checked) false ⟨#[], #[.agg #[.int .i64 0, .int .i64 0, .bool false, .slice none 0 0], .int .i64 0], []⟩ 8 (by kernel_rfl) (by kernel_rfl) (by kernel_rfl) (by kernel_rfl)) ?_
  intro W base args ds gs before hval0 hW hcnd _
  have hval : ∀ (j : Nat) t v, Try.f4.params[j]? = some t → args[j]? = some v → Value.okWide Try.prog W .any base t v := hval0
  have hW' := hW
  obtain ⟨p, q, hA0, hV, rfl, hfz, hnd⟩ := hW
  have hA : DataW.TrodAll enc Try.prog W 0 (fun _ => true) true Try.f4.params.toList args.toList ds p := hA0
  rw [Try.params4] at hA hval
  obtain ⟨v0, vs0, d0, ds0, p0, q0, hargs, rfl, rfl, h0, r0⟩ := trodAll_cons hA
  obtain ⟨v1, vs1, d1, ds1, p1, q1, rfl, rfl, rfl, h1, r1⟩ := trodAll_cons r0
  obtain ⟨rfl, rfl, rfl⟩ := trodAll_nil r1
  obtain rfl : args = #[v0, v1] := by cases args; simp_all
  obtain ⟨rfl, rfl⟩ := trodVars_none hV
  have k0 := h0
  have lt0 : ∀ x ∈ p0, x.block < W.heap.size := by obtain ⟨m, hm⟩ := k0; exact DataW.trod_lt m _ _ _ hm
  obtain ⟨cL0, cG0, cH0, cS0, yL0, yG0, yH0, yS0, m0, rfl, -, -, hL0, hG0, hH0, hS0⟩ := Joins.open_agg4 Try.underlying28 (by kernel_rfl) (show Try.prog.cellsOf 28 = 4 by kernel_rfl) (hval 0 28 v0 rfl rfl) h0
  obtain ⟨L0, eL0, -, wL0⟩ := DataW.trod_int Try.underlying3 hL0
  obtain ⟨G0, eG0, -, wG0⟩ := DataW.trod_int Try.underlying3 hG0
  obtain ⟨H0, eH0, -⟩ := DataW.trod_bool Try.underlying4 hH0
  simp only [List.cons.injEq, and_true] at eL0 eG0 eH0
  subst eL0 eG0 eH0
  obtain ⟨ps0, n0, c0, rfl⟩ : ∃ ps n c, cS0 = .slice ps n c := by
    rcases Go.Deep.open_slice Try.underlying26 hS0 with ⟨e, -⟩ | ⟨a, l, c, _, _, _, _, e, -⟩
    · simp at e; exact ⟨_, _, _, e⟩
    · simp at e; exact ⟨_, _, _, e⟩
  obtain ⟨g0, o0, z0, nc0, cm0, fl0, -⟩ := open_rows Try.underlying26 Try.underlying40 (by kernel_rfl) (show Try.prog.cellsOf 40 = 3 by kernel_rfl) rfl (by decide) Try.underlying3 (by kernel_rfl) hS0
  have k1 := h1
  have lt1 : ∀ x ∈ p1, x.block < W.heap.size := by obtain ⟨m, hm⟩ := k1; exact DataW.trod_lt m _ _ _ hm
  obtain ⟨a1, rfl, -, -, w1⟩ := open_int Try.underlying3 (hval 1 3 v1 rfl rfl) h1
  clear hA0 hval0
  refine (walk L0 G0 H0 ps0 c0 n0 z0 a1 W (Nat.le_trans nc0 cm0) ⟨_, _, _, _, rfl, nc0, fl0⟩ wL0 wG0 w1).mono fun e W' ⟨he, bel⟩ => ?_
  subst he
  exact ⟨_, rfl, _, _, _, [], _, [], hW', trodAll_mk1 (shut_bool Try.underlying4 _), (trodAll_cons_mk (Below.trod laidOut (by kernel_rfl) (of_decide_eq_true (by kernel_rfl)) k0 bel lt0) (trodAll_cons_mk (Below.trod laidOut (by kernel_rfl) (of_decide_eq_true (by kernel_rfl)) k1 bel lt1) trodAll_mk0)), rfl, bel.frame _, fun h => by cases h⟩

theorem over : Rows.fnBeltRunsRow.holds Try.pinned (OpenSpec.ofChange Rows.fnBeltRunsSpec) :=
  OpenClaim.holds_of_wide 4 Try.f4 rfl rfl rfl rfl rfl rfl rfl ⟨rfl, rfl, rfl, rfl, rfl⟩ rfl rfl rfl rfl rfl (by kernel_rfl) Try.func4 (by kernel_rfl)
    (of_decide_eq_true (by kernel_rfl)) (by unfold Func.isWrapper; first | (rw [if_pos (by decide +kernel)]; kernel_rfl) | (rw [if_neg (by decide +kernel)]; exact ⟨rfl, rfl⟩))
    (fun os started H enc _ => lifted os started H enc)

/-- The statement. -/
theorem proved : Rows.FnBeltRunsSaid := over
#print axioms proved
end Go.Proofs.Ytobcgidakbbhpab.fnBeltRuns
