/- For every code FnElapses returns true, and the code reads as before. No condition. -/
import Derived.Test.YtkdlhapbbnggoabRows
import Derived.Test.YtkdlhapbbnggoabDrawScr2
import Derived.Test.YtkdlhapbbnggoabElapsePlain
import Derived.Test.YtkdlhapbbnggoabElapseI
import Derived.Test.YtkdlhapbbnggoabElapseS
import Derived.Test.YtkdlhapbbnggoabHandTimeI
import Derived.Test.YtkdlhapbbnggoabHandTimeS
import Derived.Test.YtkdlhapbbnggoabBig
import Derived.OpenShut
import Derived.ChangeOld
import Derived.Lib.SmallJoins
namespace Go.Proofs.Ytkdlhapbbnggoab.fnElapses
open Go.ChangeShapes Go.WideShapes Go.ChangeAt Go.RowKit
set_option linter.unusedVariables false

def z3 (x y z : Int) : Nat → Int := fun j => if j = 0 then x else if j = 1 then y else z
theorem rd3 {W : World} {k : Nat} {x y z : Int} (h : W.heap[k]? = some (.cells #[.int .i64 x, .int .i64 y, .int .i64 z] 3 (0, 0))) : Rd W (.slice (some ⟨k, 0, none⟩) 3 3) 3 3 (z3 x y z) := by
  refine ⟨_, 3, k, 0, rfl, Nat.le_refl _, fun _ => ⟨rfl, Nat.zero_le _, blk_lt h⟩, fun j hj => ?_⟩
  rw [Nat.zero_add, cell_of_row _ _ _ _ _ _ h]
  match j, hj with
  | 0, _ => rfl
  | 1, _ => rfl
  | 2, _ => rfl

set_option maxRecDepth 100000 in
set_option maxHeartbeats 8000000 in
theorem walk (p : Option Addr) (n cap gc oc : Nat) (w : World) (hn : n ≤ maxLen) (hC : Code w.heap.size n w p gc oc) :
    Calls Try.prog 13 #[.slice p n cap] w fun e w' => e = .returned (.bool true) ∧ Below w.heap.size w w' := by
  have hbg := Lib.hid (big_any p n cap hn w)
  by_cases hbig : 1048576 < n
  · have hd : decide (1048576 < n) = true := decide_eq_true hbig
    simp only [hd] at hbg
    clear hC hbig hd hn
    go_enter Try.func13, Try.ntmps13
    go_wp2_with (go_at_call 38; refine hbg.out.mono ?_; rintro e w' ⟨rfl, rfl⟩)
    go_ret
    exact ⟨rfl, Below.refl _ _⟩
  have hd : decide (1048576 < n) = false := decide_eq_false hbig
  simp only [hd] at hbg
  have hn' : n ≤ 1048576 := by omega
  have HC := Lib.hid hC
  clear hC hbig hd hn
  go_enter Try.func13, Try.ntmps13
  go_wp2_with (go_at_call 38; refine hbg.out.mono ?_; rintro e w' ⟨rfl, rfl⟩)
  refine (DrawScreen_any hn' (Below.refl _ _) HC.out).mono ?_
  rintro e w1 ⟨px, py, pz, L, S, V, k, hx, hy, hz, hs, hs99, rfl, hk, hb1⟩
  have hP : PoP 3 (z3 px py pz) := ⟨rfl, fun i hi => by unfold z3; split <;> (try split) <;> omega⟩
  have K1 := Lib.hid hk
  have B1 := Lib.hid hb1
  have HP := Lib.hid hP
  have HS := Lib.hid hs
  have hS0 := hs.2.1
  clear hk hb1 hP hs hx hy hz hbg
  go_wp2_with fail
  obtain ⟨w2, hw2⟩ : ∃ q, q = (w1.alloc (.cells #[(.slice (some ⟨k, 0, none⟩) 3 3)] 69)).alloc (.cells #[.int .i64 L, .int .i64 S, .int .i64 V] 71) := ⟨_, rfl⟩
  have b2 : Below w1.heap.size w1 w2 := by rw [hw2]; exact ((Below.refl _ _).alloc (Nat.le_refl _) _).alloc (by simp) _
  have A2 : Hid (w2.heap[w1.heap.size]? = some (.cells #[(.slice (some ⟨k, 0, none⟩) 3 3)] 69 (0, 0))) := by rw [hw2]; exact (heap_old _ _ _ (by simp)).trans (heap_new _ _ _ rfl)
  have S2 : Hid (w2.heap[w1.heap.size + 1]? = some (.cells #[.int .i64 L, .int .i64 S, .int .i64 V] 71 (0, 0))) := by rw [hw2]; exact heap_new _ _ _ (by simp)
  rw [← hw2]
  clear hw2
  have B2 := Lib.hid (B1.out.trans (b2.mono B1.out.size))
  have K2 := Lib.hid (blk_later K1.out b2)
  clear b2
  refine (DrawPlaces_any hn' B2.out HC.out).mono ?_
  rintro e w3 ⟨vl, zl, hzl, rfl, hrl, hb3⟩
  have B3 := Lib.hid (B2.out.trans (hb3.mono B2.out.size))
  have K3 := Lib.hid (blk_later K2.out hb3)
  have A3 := Lib.hid (blk_later A2.out hb3)
  have S3 := Lib.hid (blk_later S2.out hb3)
  obtain ⟨pl, cl, gl, ol, rfl, hcl, hfl⟩ := hrl
  obtain ⟨rfl, -, hgl⟩ := hfl.1 (by omega)
  have l0 := hfl.int 0 (by omega)
  have l1 := hfl.int 1 (by omega)
  rw [Nat.add_zero] at l0
  have hz0 := hzl 0 (by omega)
  have hz1 := hzl 1 (by omega)
  obtain ⟨y0, hy0⟩ : ∃ y, y = zl 0 := ⟨_, rfl⟩
  obtain ⟨y1, hy1⟩ : ∃ y, y = zl 1 := ⟨_, rfl⟩
  rw [← hy0] at l0 hz0
  rw [← hy1] at l1 hz1
  clear hzl hfl hb3 hy0 hy1
  obtain ⟨s0, s1, s2, -⟩ := cells3 S3.out
  obtain ⟨m0, hm0⟩ : ∃ m, m = y0 % 40 := ⟨_, rfl⟩
  have hmt : y0.tmod 40 = m0 := by rw [hm0]; exact Int.tmod_eq_emod_of_nonneg hz0.1
  have hm : 0 ≤ m0 ∧ m0 ≤ 39 := by omega
  have hwr : IntKind.i64.wrap (S + m0) = S + m0 := IntWalk.i64_in _ (by omega)
  have hwm : IntKind.i64.wrap m0 = m0 := IntWalk.i64_in _ (by omega)
  clear hm0
  go_wp2_with fail
  go_quiet (fail)
  generalize hwq : w3.drewN nq = w4
  have B4 : Hid (Below w.heap.size w w4) := by rw [← hwq]; exact below_drewN' B3.out _
  have K4 : Hid (w4.heap[k]? = some (.cells #[.int .i64 px, .int .i64 py, .int .i64 pz] 3 (0, 0))) := by rw [← hwq]; exact K3.out
  have A4 : Hid (w4.heap[w1.heap.size]? = some (.cells #[(.slice (some ⟨k, 0, none⟩) 3 3)] 69 (0, 0))) := by rw [← hwq]; exact A3.out
  have S4 : Hid (w4.heap[w1.heap.size + 1]? = some (.cells #[.int .i64 L, .int .i64 S, .int .i64 V] 71 (0, 0))) := by rw [← hwq]; exact S3.out
  have l1' : w4.cell? ⟨gl, ol + 1, none⟩ = some (.int .i64 y1) := by rw [← hwq]; exact l1
  clear l0 l1 s0 s1 s2 hwq hmt hwr hwm
  obtain ⟨a0, -⟩ := cells1 A4.out
  obtain ⟨s0, s1, s2, -⟩ := cells3 S4.out
  have hy1m : 0 ≤ y1 % 40 ∧ y1 % 40 ≤ 39 := by omega
  go_wp2_with fail

  obtain ⟨a, ha⟩ : ∃ a, a = S + m0 := ⟨_, rfl⟩
  rw [← ha]
  obtain ⟨b, hb⟩ : ∃ b, b = a + y1 % 40 := ⟨_, rfl⟩
  rw [← hb]
  have ha0 : 0 ≤ a ∧ a ≤ 100000 := by omega
  have hb0 : 0 ≤ b ∧ b ≤ 100000 := by omega
  obtain ⟨f1, f2, f3, f4, f5⟩ := eLS_two HP.out HS.out ha0 hb0 (by omega)
  obtain ⟨g1, g2⟩ := ht_at HP.out HS.out (by omega)
  obtain ⟨zz, hzz⟩ : ∃ q, q = z3 px py pz := ⟨_, rfl⟩
  have HRD : Hid (∀ W, W.heap[k]? = some (.cells #[.int .i64 px, .int .i64 py, .int .i64 pz] 3 (0, 0)) → Rd W (.slice (some ⟨k, 0, none⟩) 3 3) 3 3 zz) := fun W h => by rw [hzz]; exact rd3 h
  have hE1 := fun W h => iElapse_v 3 zz (.slice (some ⟨k, 0, none⟩) 3 3) L S V a W (HRD.out W h)
  have hE4 := fun W h => sElapse_v 3 zz (.slice (some ⟨k, 0, none⟩) 3 3) L S V a W (HRD.out W h)
  have hE2 := fun W h => iElapse_v 3 zz (.slice (some ⟨k, 0, none⟩) 3 3) (eL 3 zz L S V a) (eS 3 zz L S V a) V b W (HRD.out W h)
  have hE3 := fun W h => iElapse_v 3 zz (.slice (some ⟨k, 0, none⟩) 3 3) L S V b W (HRD.out W h)
  have hH5 := fun W h => iHandTime_v 3 zz (.slice (some ⟨k, 0, none⟩) 3 3) L S V W (HRD.out W h)
  have hH6 := fun W h => sHandTime_v 3 zz (.slice (some ⟨k, 0, none⟩) 3 3) L S V W (HRD.out W h)
  have hE7 := fun W h => iElapse_v 3 zz (.slice (some ⟨k, 0, none⟩) 3 3) L S V (htI 3 zz L S V) W (HRD.out W h)
  have hE8 := fun W h => iElapse_v 3 zz (.slice (some ⟨k, 0, none⟩) 3 3) L S V (htI 3 zz L S V - 1) W (HRD.out W h)
  have hPB : poB 3 zz = true := by rw [hzz]; exact poB_yes HP.out
  have hP9 := fun W h => iPolicyOk_v hPB (HRD.out W h)
  rw [← hzz] at f1 f2 f3 f4 f5 g1 g2
  rw [f4, f5] at hE2
  rw [f4] at f3
  obtain ⟨xL, hxL⟩ : ∃ q, q = eL 3 zz L S V a := ⟨_, rfl⟩
  obtain ⟨xS, hxS⟩ : ∃ q, q = eS 3 zz L S V a := ⟨_, rfl⟩
  obtain ⟨yL, hyL⟩ : ∃ q, q = eL 3 zz L S V b := ⟨_, rfl⟩
  obtain ⟨yS, hyS⟩ : ∃ q, q = eS 3 zz L S V b := ⟨_, rfl⟩
  rw [← hxL] at f1 f2 f3 hE1 hE2 hE4
  rw [← hxS] at f1 hE1 hE2 hE4
  rw [← hyL] at f3 hE2 hE3
  rw [← hyS] at hE2 hE3
  obtain ⟨t, ht⟩ : ∃ q, q = htI 3 zz L S V := ⟨_, rfl⟩
  obtain ⟨rb, hrb⟩ : ∃ q, q = htB 3 zz L S V := ⟨_, rfl⟩
  rw [← ht] at g2 hE7 hE8 hH5 hH6
  rw [← hrb] at g1 g2 hH5 hH6
  obtain ⟨vL, hvL⟩ : ∃ q, q = eL 3 zz L S V t := ⟨_, rfl⟩
  obtain ⟨vS, hvS⟩ : ∃ q, q = eS 3 zz L S V t := ⟨_, rfl⟩
  obtain ⟨uL, huL⟩ : ∃ q, q = eL 3 zz L S V (t - 1) := ⟨_, rfl⟩
  obtain ⟨uS, huS⟩ : ∃ q, q = eS 3 zz L S V (t - 1) := ⟨_, rfl⟩
  rw [← hvL] at g2 hE7
  rw [← hvS] at hE7
  rw [← huL] at g2 hE8
  rw [← huS] at hE8
  have hSX : scB xL xS V = true := scB_yes f1
  have HE1 := Lib.hid hE1
  have HE2 := Lib.hid hE2
  have HE3 := Lib.hid hE3
  have HE4 := Lib.hid hE4
  have HH5 := Lib.hid hH5
  have HH6 := Lib.hid hH6
  have HE7 := Lib.hid hE7
  have HE8 := Lib.hid hE8
  have HP9 := Lib.hid hP9
  have HSX := Lib.hid hSX
  have HG1 := Lib.hid g1
  have HG2 := Lib.hid g2
  have hf2 : decide (xL < L) = false := decide_eq_false (by omega)
  have hf3 : decide (yL < xL) = false := decide_eq_false (by omega)
  clear hE1 hE2 hE3 hE4 hH5 hH6 hE7 hE8 hP9 hSX hPB hzz hxL hxS hyL hyS ht hrb hvL hvS huL huS f1 f4 f5 g1 g2 ha hb l1'
  clear a0 s0 s1 s2
  refine (HE1.out _ K4.out).mono ?_
  rintro e w5 ⟨rfl, hb⟩
  have B5 := Lib.hid (B4.out.trans (hb.mono B4.out.size))
  have K5 := Lib.hid (blk_later K4.out hb)
  have A5 := Lib.hid (blk_later A4.out hb)
  have S5 := Lib.hid (blk_later S4.out hb)
  clear hb K4 A4 S4 B4
  obtain ⟨a0, -⟩ := cells1 A5.out
  obtain ⟨s0, s1, s2, -⟩ := cells3 S5.out
  go_upto_region 8 with fail
  clear a0 s0 s1 s2
  obtain ⟨w6, hw6⟩ : ∃ q, q = w5.alloc (.cells #[.int .i64 xL, .int .i64 xS, .int .i64 V] 71) := ⟨_, rfl⟩
  have hb : Below w5.heap.size w5 w6 := by rw [hw6]; exact (Below.refl _ _).alloc (Nat.le_refl _) _
  have X6 : Hid (w6.heap[w5.heap.size]? = some (.cells #[.int .i64 xL, .int .i64 xS, .int .i64 V] 71 (0, 0))) := by rw [hw6]; exact heap_new _ _ _ rfl
  rw [← hw6]
  clear hw6
  have B6 := Lib.hid (B5.out.trans (hb.mono B5.out.size))
  have K6 := Lib.hid (blk_later K5.out hb)
  have A6 := Lib.hid (blk_later A5.out hb)
  have S6 := Lib.hid (blk_later S5.out hb)
  clear hb K5 A5 S5 B5
  obtain ⟨a0, -⟩ := cells1 A6.out
  obtain ⟨s0, s1, s2, -⟩ := cells3 S6.out
  obtain ⟨x0, x1, x2, -⟩ := cells3 X6.out
  go_wp2_with fail
  clear a0 s0 s1 s2 x0 x1 x2
  refine (HE2.out _ K6.out).mono ?_
  rintro e w7 ⟨rfl, hb⟩
  have B7 := Lib.hid (B6.out.trans (hb.mono B6.out.size))
  have K7 := Lib.hid (blk_later K6.out hb)
  have A7 := Lib.hid (blk_later A6.out hb)
  have S7 := Lib.hid (blk_later S6.out hb)
  have X7 := Lib.hid (blk_later X6.out hb)
  clear hb K6 A6 S6 X6 B6
  obtain ⟨a0, -⟩ := cells1 A7.out
  obtain ⟨s0, s1, s2, -⟩ := cells3 S7.out
  obtain ⟨x0, x1, x2, -⟩ := cells3 X7.out
  go_upto_region 9 with fail
  clear a0 s0 s1 s2 x0 x1 x2
  obtain ⟨w8, hw8⟩ : ∃ q, q = w7.alloc (.cells #[.int .i64 yL, .int .i64 yS, .int .i64 V] 71) := ⟨_, rfl⟩
  have hb : Below w7.heap.size w7 w8 := by rw [hw8]; exact (Below.refl _ _).alloc (Nat.le_refl _) _
  have Y8 : Hid (w8.heap[w7.heap.size]? = some (.cells #[.int .i64 yL, .int .i64 yS, .int .i64 V] 71 (0, 0))) := by rw [hw8]; exact heap_new _ _ _ rfl
  rw [← hw8]
  clear hw8
  have B8 := Lib.hid (B7.out.trans (hb.mono B7.out.size))
  have K8 := Lib.hid (blk_later K7.out hb)
  have A8 := Lib.hid (blk_later A7.out hb)
  have S8 := Lib.hid (blk_later S7.out hb)
  have X8 := Lib.hid (blk_later X7.out hb)
  clear hb K7 A7 S7 X7 B7
  obtain ⟨a0, -⟩ := cells1 A8.out
  obtain ⟨s0, s1, s2, -⟩ := cells3 S8.out
  obtain ⟨x0, x1, x2, -⟩ := cells3 X8.out
  obtain ⟨y0', y1', y2', -⟩ := cells3 Y8.out
  go_wp2_with fail
  clear a0 s0 s1 s2 x0 x1 x2 y0' y1' y2'
  refine (HH5.out _ K8.out).mono ?_
  rintro e w9 ⟨rfl, hb⟩
  have B9 := Lib.hid (B8.out.trans (hb.mono B8.out.size))
  have K9 := Lib.hid (blk_later K8.out hb)
  have A9 := Lib.hid (blk_later A8.out hb)
  have S9 := Lib.hid (blk_later S8.out hb)
  have X9 := Lib.hid (blk_later X8.out hb)
  have Y9 := Lib.hid (blk_later Y8.out hb)
  clear hb K8 A8 S8 X8 Y8 B8
  obtain ⟨a0, -⟩ := cells1 A9.out
  obtain ⟨s0, s1, s2, -⟩ := cells3 S9.out
  obtain ⟨x0, x1, x2, -⟩ := cells3 X9.out
  obtain ⟨y0', y1', y2', -⟩ := cells3 Y9.out
  go_wp2_with fail
  clear a0 s0 s1 s2 x0 x1 x2 y0' y1' y2'
  refine (HH6.out _ K9.out).mono ?_
  rintro e w10 ⟨rfl, hb⟩
  have B10 := Lib.hid (B9.out.trans (hb.mono B9.out.size))
  have K10 := Lib.hid (blk_later K9.out hb)
  have A10 := Lib.hid (blk_later A9.out hb)
  have S10 := Lib.hid (blk_later S9.out hb)
  have X10 := Lib.hid (blk_later X9.out hb)
  have Y10 := Lib.hid (blk_later Y9.out hb)
  clear hb K9 A9 S9 X9 Y9 B9
  obtain ⟨a0, -⟩ := cells1 A10.out
  obtain ⟨s0, s1, s2, -⟩ := cells3 S10.out
  obtain ⟨x0, x1, x2, -⟩ := cells3 X10.out
  obtain ⟨y0', y1', y2', -⟩ := cells3 Y10.out
  go_wp2_with fail
  have hc1 := Lib.hid (fun q : Later w10 => Calls.later_of (HE4.out q.wd (blk_later K10.out q.h)))
  have hc2 := Lib.hid (fun q : Later w10 => Calls.later_of (HE3.out q.wd (blk_later K10.out q.h)))
  have hc3 := Lib.hid (fun q : Later w10 => Calls.later_of (iScreenOk_at HSX.out q.wd))
  have hc4 := Lib.hid (fun q : Later w10 => Calls.later_of (HP9.out q.wd (blk_later K10.out q.h)))
  have k0 := Later.cell a0
  have k1 := Later.cell s0
  have k2 := Later.cell s1
  have k3 := Later.cell s2
  have k4 := Later.cell x0
  have k5 := Later.cell x1
  have k6 := Later.cell x2
  have k7 := Later.cell y0'
  have k8 := Later.cell y1'
  have k9 := Later.cell y2'
  clear a0 s0 s1 s2 x0 x1 x2 y0' y1' y2'
  refine wp_region_later follows_mixed (by kernel_rfl) ?_
  repeat (first | go_big_quiet_step ((first | (go_at_call 55; with_reducible exact hc1.out _) | (go_at_call 52; with_reducible exact hc2.out _) | (go_at_call 56; with_reducible exact hc3.out _) | (go_at_call 57; with_reducible exact hc4.out _))) | quiet_step ((first | (go_at_call 55; with_reducible exact hc1.out _) | (go_at_call 52; with_reducible exact hc2.out _) | (go_at_call 56; with_reducible exact hc3.out _) | (go_at_call 57; with_reducible exact hc4.out _))))
  refine wpQuiet_nil ?_
  intro w11 hw'
  have hb : Below w10.heap.size w10 w11 := by obtain ⟨p, e⟩ := hw'; rw [e]; exact p.h
  clear hw' hc1 hc2 hc3 hc4 k0 k1 k2 k3 k4 k5 k6 k7 k8 k9
  have B11 := Lib.hid (B10.out.trans (hb.mono B10.out.size))
  have K11 := Lib.hid (blk_later K10.out hb)
  have A11 := Lib.hid (blk_later A10.out hb)
  have S11 := Lib.hid (blk_later S10.out hb)
  have X11 := Lib.hid (blk_later X10.out hb)
  have Y11 := Lib.hid (blk_later Y10.out hb)
  clear hb K10 A10 S10 X10 Y10 B10
  obtain ⟨a0, -⟩ := cells1 A11.out
  obtain ⟨s0, s1, s2, -⟩ := cells3 S11.out
  obtain ⟨x0, x1, x2, -⟩ := cells3 X11.out
  obtain ⟨y0', y1', y2', -⟩ := cells3 Y11.out
  cases rb
  · have hV := HG1.out rfl
    have hVd : (V != 0) = true := by simpa using hV
    clear HG2
    go_wp2_with fail
    go_ret
    exact ⟨rfl, B11.out⟩
  obtain ⟨hV, ht1, ht2, ht3, ht4⟩ := HG2.out rfl
  subst hV
  subst ht3
  clear HG1 HG2
  go_wp2_with fail
  clear a0 s0 s1 s2 x0 x1 x2 y0' y1' y2'
  refine (HE7.out _ K11.out).mono ?_
  rintro e w12 ⟨rfl, hb⟩
  have B12 := Lib.hid (B11.out.trans (hb.mono B11.out.size))
  have K12 := Lib.hid (blk_later K11.out hb)
  have A12 := Lib.hid (blk_later A11.out hb)
  have S12 := Lib.hid (blk_later S11.out hb)
  have X12 := Lib.hid (blk_later X11.out hb)
  have Y12 := Lib.hid (blk_later Y11.out hb)
  clear hb K11 A11 S11 X11 Y11 B11
  obtain ⟨a0, -⟩ := cells1 A12.out
  obtain ⟨s0, s1, s2, -⟩ := cells3 S12.out
  obtain ⟨x0, x1, x2, -⟩ := cells3 X12.out
  obtain ⟨y0', y1', y2', -⟩ := cells3 Y12.out
  go_upto_region 16 with fail
  clear a0 s0 s1 s2 x0 x1 x2 y0' y1' y2'
  obtain ⟨w13, hw13⟩ : ∃ q, q = w12.alloc (.cells #[.int .i64 4, .int .i64 vS, .int .i64 0] 71) := ⟨_, rfl⟩
  have hb : Below w12.heap.size w12 w13 := by rw [hw13]; exact (Below.refl _ _).alloc (Nat.le_refl _) _
  have T13 : Hid (w13.heap[w12.heap.size]? = some (.cells #[.int .i64 4, .int .i64 vS, .int .i64 0] 71 (0, 0))) := by rw [hw13]; exact heap_new _ _ _ rfl
  rw [← hw13]
  clear hw13
  have B13 := Lib.hid (B12.out.trans (hb.mono B12.out.size))
  have K13 := Lib.hid (blk_later K12.out hb)
  have A13 := Lib.hid (blk_later A12.out hb)
  have S13 := Lib.hid (blk_later S12.out hb)
  have X13 := Lib.hid (blk_later X12.out hb)
  have Y13 := Lib.hid (blk_later Y12.out hb)
  clear hb K12 A12 S12 X12 Y12 B12
  obtain ⟨a0, -⟩ := cells1 A13.out
  obtain ⟨s0, s1, s2, -⟩ := cells3 S13.out
  obtain ⟨x0, x1, x2, -⟩ := cells3 X13.out
  obtain ⟨y0', y1', y2', -⟩ := cells3 Y13.out
  obtain ⟨t0, t1, t2, -⟩ := cells3 T13.out
  go_wp2_with fail
  clear a0 s0 s1 s2 x0 x1 x2 y0' y1' y2' t0 t1 t2
  refine (HE8.out _ K13.out).mono ?_
  rintro e w14 ⟨rfl, hb⟩
  have B14 := Lib.hid (B13.out.trans (hb.mono B13.out.size))
  have K14 := Lib.hid (blk_later K13.out hb)
  have A14 := Lib.hid (blk_later A13.out hb)
  have S14 := Lib.hid (blk_later S13.out hb)
  have X14 := Lib.hid (blk_later X13.out hb)
  have Y14 := Lib.hid (blk_later Y13.out hb)
  have T14 := Lib.hid (blk_later T13.out hb)
  clear hb K13 A13 S13 X13 Y13 T13 B13
  obtain ⟨a0, -⟩ := cells1 A14.out
  obtain ⟨s0, s1, s2, -⟩ := cells3 S14.out
  obtain ⟨x0, x1, x2, -⟩ := cells3 X14.out
  obtain ⟨y0', y1', y2', -⟩ := cells3 Y14.out
  obtain ⟨t0, t1, t2, -⟩ := cells3 T14.out
  go_upto_region 17 with fail
  clear a0 s0 s1 s2 x0 x1 x2 y0' y1' y2' t0 t1 t2
  obtain ⟨w15, hw15⟩ : ∃ q, q = w14.alloc (.cells #[.int .i64 uL, .int .i64 uS, .int .i64 0] 71) := ⟨_, rfl⟩
  have hb : Below w14.heap.size w14 w15 := by rw [hw15]; exact (Below.refl _ _).alloc (Nat.le_refl _) _
  have U15 : Hid (w15.heap[w14.heap.size]? = some (.cells #[.int .i64 uL, .int .i64 uS, .int .i64 0] 71 (0, 0))) := by rw [hw15]; exact heap_new _ _ _ rfl
  rw [← hw15]
  clear hw15
  have B15 := Lib.hid (B14.out.trans (hb.mono B14.out.size))
  have K15 := Lib.hid (blk_later K14.out hb)
  have A15 := Lib.hid (blk_later A14.out hb)
  have S15 := Lib.hid (blk_later S14.out hb)
  have X15 := Lib.hid (blk_later X14.out hb)
  have Y15 := Lib.hid (blk_later Y14.out hb)
  have T15 := Lib.hid (blk_later T14.out hb)
  clear hb K14 A14 S14 X14 Y14 T14 B14
  obtain ⟨a0, -⟩ := cells1 A15.out
  obtain ⟨s0, s1, s2, -⟩ := cells3 S15.out
  obtain ⟨x0, x1, x2, -⟩ := cells3 X15.out
  obtain ⟨y0', y1', y2', -⟩ := cells3 Y15.out
  obtain ⟨t0, t1, t2, -⟩ := cells3 T15.out
  obtain ⟨u0', u1', u2', -⟩ := cells3 U15.out
  rcases ht4 with h | ⟨h, hu⟩
  · have hts : (t == S) = true := by simpa using h
    go_wp2_with fail
    go_ret
    exact ⟨rfl, B15.out⟩
  · have hts : (t == S) = false := by simpa using (show ¬ t = S by omega)
    have hgt : decide (S < t) = true := decide_eq_true h
    have hul : decide (uL < 4) = true := decide_eq_true hu
    go_wp2_with fail
    go_ret
    exact ⟨rfl, B15.out⟩

/-! The row's step. -/
theorem own : ownKnob Try.prog.godebug = none := by kernel_rfl
theorem laidOut : laidOutB Try.prog = true := by kernel_rfl
set_option maxRecDepth 100000 in
theorem lifted (os : Os) (started : os.Started) (H : Type) (enc : TypeId × Value → H) :
    ReturnsInHanded {} Try.checked os 13 .any (Rows.fnElapsesSpec.pre6 enc Try.prog Try.f13 Rows.fnElapsesRow.domain false) (Rows.fnElapsesSpec.post enc Try.prog Try.f13 false true false false) := by
  refine returnsInHanded_of_change (C := Try.checked) own started (by kernel_rfl) Try.func13
    (ChangeSpec.witness6 (enc := enc) (C := Try.checked) false ⟨#[], #[.slice none 0 0], []⟩ 8 (by kernel_rfl) (by kernel_rfl) (by kernel_rfl) (by kernel_rfl)) ?_
  intro W base args ds gs before hval0 hW hcnd _
  have hval : ∀ (j : Nat) t v, Try.f13.params[j]? = some t → args[j]? = some v → Value.okWide Try.prog W .any base t v := hval0
  have hW' := hW
  obtain ⟨p, q, hA0, hV, rfl, hfz, hnd⟩ := hW
  have hA : DataW.TrodAll enc Try.prog W 0 (fun _ => true) true Try.f13.params.toList args.toList ds p := hA0
  rw [Try.params13] at hA hval
  obtain ⟨v0, vs0, d0, ds0, p0, q0, hargs, rfl, rfl, h0, r0⟩ := trodAll_cons hA
  obtain ⟨rfl, rfl, rfl⟩ := trodAll_nil r0
  obtain rfl : args = #[v0] := by cases args; simp_all
  obtain ⟨rfl, rfl⟩ := trodVars_none hV
  have k0 := h0
  have lt0 : ∀ x ∈ p0, x.block < W.heap.size := by obtain ⟨m, hm⟩ := k0; exact DataW.trod_lt m _ _ _ hm
  obtain ⟨sp0, ln0, cp0, rfl⟩ := okWide_slice Try.underlying49 (hval 0 49 v0 rfl rfl)
  obtain ⟨gc0, oc0, w0, cd0⟩ := code_open h0
  clear hA0 hval0
  refine (walk sp0 ln0 cp0 gc0 oc0 W w0 cd0).mono fun e W' ⟨he, bel⟩ => ?_
  subst he
  exact ⟨_, rfl, _, _, _, [], _, [], hW', trodAll_mk1 (shut_bool Try.underlying4 _), (trodAll_cons_mk (Below.trod laidOut (by kernel_rfl) (of_decide_eq_true (by kernel_rfl)) k0 bel lt0) trodAll_mk0), rfl, bel.frame _, fun h => by cases h⟩

theorem over : Rows.fnElapsesRow.holds Try.pinned (OpenSpec.ofChange Rows.fnElapsesSpec) :=
  OpenClaim.holds_of_wide 13 Try.f13 rfl rfl rfl rfl rfl rfl rfl ⟨rfl, rfl, rfl, rfl, rfl⟩ rfl rfl rfl rfl rfl (by kernel_rfl) Try.func13 (by kernel_rfl)
    (of_decide_eq_true (by kernel_rfl)) (by unfold Func.isWrapper; first | (rw [if_pos (by decide +kernel)]; kernel_rfl) | (rw [if_neg (by decide +kernel)]; exact ⟨rfl, rfl⟩))
    (fun os started H enc _ => lifted os started H enc)

/-- The statement. -/
theorem proved : Rows.FnElapsesSaid := over
#print axioms proved
end Go.Proofs.Ytkdlhapbbnggoab.fnElapses
