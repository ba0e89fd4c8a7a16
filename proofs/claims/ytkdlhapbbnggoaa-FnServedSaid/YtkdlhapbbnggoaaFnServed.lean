/- For every code FnServed returns true, and the code reads as before. No condition. -/
import Derived.Test.YtkdlhapbbnggoaaRows
import Derived.Test.YtkdlhapbbnggoaaDrawSrv
import Derived.Test.YtkdlhapbbnggoaaStaffPlain
import Derived.Test.YtkdlhapbbnggoaaSameInts2
import Derived.Test.YtkdlhapbbnggoaaServeI
import Derived.Test.YtkdlhapbbnggoaaServeS
import Derived.Test.YtkdlhapbbnggoaaDroppedI
import Derived.Test.YtkdlhapbbnggoaaDroppedS
import Derived.Test.YtkdlhapbbnggoaaBig
import Derived.Deep.CutRange
import Derived.OpenShut
import Derived.ChangeOld
import Derived.Lib.SmallJoins
namespace Go.Proofs.Ytkdlhapbbnggoaa.fnServed
open Go.ChangeShapes Go.WideShapes Go.ChangeAt Go.RowKit
set_option linter.unusedVariables false

set_option maxRecDepth 100000 in
set_option maxHeartbeats 8000000 in
theorem walk (p : Option Addr) (n cap gc oc : Nat) (w : World) (hn : n ≤ maxLen) (hC : Code w.heap.size n w p gc oc) :
    Calls Try.prog 14 #[.slice p n cap] w fun e w' => e = .returned (.bool true) ∧ Below w.heap.size w w' := by
  have hbg := Lib.hid (big_any p n cap hn w)
  by_cases hbig : 1048576 < n
  · have hd : decide (1048576 < n) = true := decide_eq_true hbig
    simp only [hd] at hbg
    clear hC hbig hd hn
    go_enter Try.func14, Try.ntmps14
    go_wp2_with (go_at_call 47; refine hbg.out.mono ?_; rintro e w' ⟨rfl, rfl⟩)
    go_ret
    exact ⟨rfl, Below.refl _ _⟩
  have hd : decide (1048576 < n) = false := decide_eq_false hbig
  simp only [hd] at hbg
  have hn' : n ≤ 1048576 := by omega
  have HC := Lib.hid hC
  clear hC hbig hd hn
  go_enter Try.func14, Try.ntmps14
  go_wp2_with (go_at_call 47; refine hbg.out.mono ?_; rintro e w' ⟨rfl, rfl⟩)
  refine (DrawImages_any hn' (Below.refl _ _) HC.out).mono ?_
  rintro e w1 ⟨v, q, z, t, s, hq, hI, ht, hs, rfl, hr, hb1⟩
  have hv : SvP q z t s := ⟨hI, by omega, by omega⟩
  have hqm : q ≤ maxLen := by unfold maxLen; omega
  have eN : svN q z t s = q := if_pos hv
  have hSI := fun W (hW : Below w1.heap.size w1 W) => iServe_v q hqm z v t s W (hr.later hW)
  have hSS := fun W (hW : Below w1.heap.size w1 W) => sServe_v q hqm z v t s W (hr.later hW)
  have hIO := fun W (hW : Below w1.heap.size w1 W) => iImagesOk_v q hqm z v W (hr.later hW)
  rw [imB_yes hI] at hIO
  rw [eN] at hSI hSS
  obtain ⟨pl, cl, gl, ol, rfl, hcl, hfl⟩ := hr
  obtain ⟨m, hm⟩ : ∃ m, m = s.toNat := ⟨_, rfl⟩
  rw [← hm] at hSI hSS
  have hP1 : ∀ i, i < q → 0 ≤ svO t m z i → z (i * 2) ≤ svO t m z i ∧ svO t m z i ≤ z (i * 2) + t := fun i hi h0 => svO_in hI hi h0
  have hP2 : ∀ i, 0 ≤ svO t m z i → bsy t m z (svO t m z i) q ≤ m := fun i h0 => bsy_ok (by omega) hI h0
  have hP4 : ∀ T k, 0 ≤ T → k ≤ q → bsy t m z T k ≤ m := fun T k h0 hk => by have := bsy_le (t := t) (m := m) (by omega) hI T h0 k hk; omega
  have hP3 : ∀ T k, bsy t m z T (k + 1) = bsy t m z T k + if 0 ≤ svO t m z k ∧ svO t m z k ≤ T ∧ T < svO t m z k + z (k * 2 + 1) then 1 else 0 := fun T k => rfl
  have hP5 : ∀ T, bsy t m z T 0 = 0 := fun T => rfl
  have hP6 : ∀ k, k < q → 0 ≤ z (k * 2) ∧ z (k * 2) ≤ 100000 ∧ 1 ≤ z (k * 2 + 1) ∧ z (k * 2 + 1) ≤ 5000 := fun k hk => hI.at hk
  obtain ⟨f, hf⟩ : ∃ f, f = svO t m z := ⟨_, rfl⟩
  obtain ⟨bz, hbz⟩ : ∃ f, f = bsy t m z := ⟨_, rfl⟩
  rw [← hf] at hSI hSS
  simp only [← hf, ← hbz] at hP1 hP2 hP3 hP4 hP5
  have HSI := Lib.hid hSI
  have HSS := Lib.hid hSS
  have HIO := Lib.hid hIO
  have HP1 := Lib.hid hP1
  have HP2 := Lib.hid hP2
  have HP3 := Lib.hid hP3
  have HP4 := Lib.hid hP4
  have HP5 := Lib.hid hP5
  have HP6 := Lib.hid hP6
  have HFL := Lib.hid hfl
  have B1 := Lib.hid hb1
  have hm16 : (m : Int) = s := by omega
  clear hSI hSS hIO hP1 hP2 hP3 hP4 hP5 hP6 hf hbz hI hv eN hfl hb1 hm hbg
  go_wp2_with fail
  refine (HSI.out _ (Below.refl _ _)).mono ?_
  rintro e w2 ⟨vx, rfl, hO, hb⟩
  have hs2 := hb.size
  have RX2 := Lib.hid (hO.rd (Nat.le_refl _))
  obtain ⟨px, cx, gx, ox, rfl, hcx, hfx, -⟩ := hO
  have HFX := Lib.hid hfx
  have B2 := Lib.hid hb
  clear hfx hb
  go_wp2_with fail
  refine (HSS.out _ B2.out).mono ?_
  rintro e w3 ⟨vy, rfl, hO, hb⟩
  have RY3 := Lib.hid (hO.rd (Nat.le_refl _))
  obtain ⟨py, cy, gy, oy, rfl, hcy, -, -⟩ := hO
  have RX3 := Lib.hid (RX2.out.later hb)
  have HFX3 := Lib.hid (HFX.out.below hb (Nat.le_refl _))
  have hs3 := hb.size
  have B3 := Lib.hid (B2.out.trans (hb.mono B2.out.size))
  clear hb
  go_wp2_with fail
  refine (sameInts2_v q hqm f _ _ _ RX3.out RY3.out).mono ?_
  rintro e w4 ⟨rfl, hb⟩
  have HFX4 := Lib.hid (HFX3.out.below hb hs3)
  have hs4 := hb.size
  have B4 := Lib.hid (B3.out.trans (hb.mono B3.out.size))
  clear hb
  have hqq : ((q : Int) != (q : Int)) = false := by simp
  go_wp2_with fail
  refine (HIO.out _ B4.out).mono ?_
  rintro e w5 ⟨rfl, hb⟩
  have HFX5 := Lib.hid ((HFX4.out.below hb (by omega)).wide (lo' := 0) (hi' := w5.heap.size) (Nat.zero_le _) (by have := hb.size; omega))
  have B5 := Lib.hid (B4.out.trans (hb.mono B4.out.size))
  have HFL5 := Lib.hid ((HFL.out.below B5.out (Nat.le_refl _)).wide (Nat.le_refl 0) B5.out.size)
  clear hb
  go_wp2_with fail
  go_loopw [7] (fun v wr => ∃ i : Nat, i ≤ q ∧ v = .int .i64 (i : Int) ∧ Below w5.heap.size w5 wr) (fun v _ => q - (intOf v).toNat)
  case atStart => exact ⟨0, by omega, rfl, Below.refl _ _⟩
  case round =>
    obtain ⟨i, hi, rfl, hbw⟩ := hrel
    obtain ⟨wq, rfl⟩ : ∃ xx, xx = wr := ⟨_, rfl⟩
    by_cases hiq : i < q
    · obtain ⟨rfl, -, hgx⟩ := HFX5.out.1 (by omega)
      obtain ⟨rfl, -, hgl⟩ := HFL5.out.1 (by omega)
      have a0 := (hbw.cell (p := ⟨gx, ox + i, none⟩) hgx).trans (HFX5.out.int i (by omega))
      have l0 := (hbw.cell (p := ⟨gl, ol + i * 2, none⟩) hgl).trans (HFL5.out.int (i * 2) (by omega))
      have p1 := HP1.out i hiq
      have p2 := HP2.out i
      have p6 := HP6.out i hiq
      have hA := Lib.hid (fun W (hW : Below w5.heap.size w5 W) => (hW.cell (p := ⟨gx, ox + i, none⟩) hgx).trans (HFX5.out.int i (by omega)))
      obtain ⟨T, hT⟩ : ∃ T, T = f i := ⟨_, rfl⟩
      obtain ⟨A, hAA⟩ : ∃ A, A = z (i * 2) := ⟨_, rfl⟩
      rw [← hT] at a0 p1 p2 hA
      rw [← hAA] at l0 p1 p6
      have BW := Lib.hid hbw
      clear hT hAA hbw
      have hi0 : (0 : Int) ≤ (i : Int) := by omega
      have hil : (i : Int) < (q : Int) := by omega
      by_cases hneg : T < 0
      · have hd1 : decide (T < 0) = true := decide_eq_true hneg
        clear p1 p2
        go_wp2_with fail
        go_roundw
        case rel => exact ⟨i + 1, by omega, by congr 1, BW.out⟩
        case measure => simp only [intOf]; omega
      · have hT0 : 0 ≤ T := by omega
        obtain ⟨p3, p4⟩ := p1 hT0
        have p5 := p2 hT0
        have hd1 : decide (T < 0) = false := decide_eq_false hneg
        have hd2 : decide (T < A) = false := decide_eq_false (by omega)
        have hd3 : decide (A + t < T) = false := decide_eq_false (by omega)
        have hwr : IntKind.i64.wrap (A + t) = A + t := IntWalk.i64_in _ (by omega)
        have hTb : T ≤ 100009 := by omega
        clear p1 p2 p3 p4 hneg
        go_wp2_with fail
        go_quiet (fail)
        generalize hwq : wq.drewN nq = w6
        have B6 : Hid (Below w5.heap.size w5 w6) := by rw [← hwq]; exact below_drewN' BW.out _
        clear a0 l0 hwq BW hd2 hd3 hwr
        have P5 := Lib.hid p5
        clear p5 p6
        go_wp2_with fail
        go_loopw [8, 9] (fun bv kv wr => ∃ k : Nat, k ≤ q ∧ kv = .int .i64 (k : Int) ∧ bv = .int .i64 ((bz T k : Nat) : Int) ∧ Below w5.heap.size w5 wr) (fun _ kv _ => q - (intOf kv).toNat)
        case atStart => exact ⟨0, by omega, rfl, by rw [HP5.out T]; rfl, B6.out⟩
        case round =>
          obtain ⟨k, hk, rfl, rfl, hbw⟩ := hrel
          obtain ⟨wi, rfl⟩ : ∃ xx, xx = wr := ⟨_, rfl⟩
          by_cases hkq : k < q
          · have a0 := hA.out wi hbw
            have c0 := (hbw.cell (p := ⟨gx, ox + k, none⟩) hgx).trans (HFX5.out.int k (by omega))
            have n0 := (hbw.cell (p := ⟨gl, ol + (k * 2 + 1), none⟩) hgl).trans (HFL5.out.int (k * 2 + 1) (by omega))
            rw [← Nat.add_assoc] at n0
            have p1 := HP1.out k hkq
            have p3 := HP3.out T k
            have p4 := HP4.out T k hT0 hk
            have p6 := HP6.out k hkq
            obtain ⟨Y, hY⟩ : ∃ T, T = f k := ⟨_, rfl⟩
            obtain ⟨N, hN⟩ : ∃ A, A = z (k * 2 + 1) := ⟨_, rfl⟩
            rw [← hY] at c0 p1 p3
            rw [← hN] at n0 p3 p6
            have BW := Lib.hid hbw
            have hwr : 0 ≤ Y → IntKind.i64.wrap (Y + N) = Y + N := fun h => IntWalk.i64_in _ (by have := p1 h; omega)
            obtain ⟨bk, hbk⟩ : ∃ x, x = bz T k := ⟨_, rfl⟩
            rw [← hbk] at p3 p4 ⊢
            have hk0 : (0 : Int) ≤ (k : Int) := by omega
            have hkl : (k : Int) < (q : Int) := by omega
            clear hY hN hbw p1 p6 hbk
            by_cases e1 : 0 ≤ Y
            rotate_left
            · have hd4 : decide (0 ≤ Y) = false := decide_eq_false e1
              have P3 : Hid (bz T (k + 1) = bk) := by rw [p3, if_neg (fun h => e1 h.1)]; rfl
              clear p3 hwr
              go_wp2_with fail
              go_quiet (fail)
              go_wp2_with fail
              go_roundw
              case rel => exact ⟨k + 1, by omega, by congr 1, by rw [P3.out], below_drewN' BW.out _⟩
              case measure => simp only [intOf]; omega
            have hd4 : decide (0 ≤ Y) = true := decide_eq_true e1
            have hwy := hwr e1
            clear hwr
            by_cases e2 : Y ≤ T
            rotate_left
            · have hd5 : decide (Y ≤ T) = false := decide_eq_false e2
              have P3 : Hid (bz T (k + 1) = bk) := by rw [p3, if_neg (fun h => e2 h.2.1)]; rfl
              clear p3
              go_wp2_with fail
              go_quiet (fail)
              go_wp2_with fail
              go_roundw
              case rel => exact ⟨k + 1, by omega, by congr 1, by rw [P3.out], below_drewN' BW.out _⟩
              case measure => simp only [intOf]; omega
            have hd5 : decide (Y ≤ T) = true := decide_eq_true e2
            by_cases e3 : T < Y + N
            rotate_left
            · have hd6 : decide (T < Y + N) = false := decide_eq_false e3
              have P3 : Hid (bz T (k + 1) = bk) := by rw [p3, if_neg (fun h => e3 h.2.2)]; rfl
              clear p3
              go_wp2_with fail
              go_quiet (fail)
              go_wp2_with fail
              go_roundw
              case rel => exact ⟨k + 1, by omega, by congr 1, by rw [P3.out], below_drewN' BW.out _⟩
              case measure => simp only [intOf]; omega
            · have hd6 : decide (T < Y + N) = true := decide_eq_true e3
              have P3 : Hid (bz T (k + 1) = bk + 1) := by rw [p3, if_pos ⟨e1, e2, e3⟩]; rfl
              have hwb : IntKind.i64.wrap ((bk : Int) + 1) = (bk : Int) + 1 := IntWalk.i64_in _ (by omega)
              clear p3
              go_wp2_with fail
              go_quiet (fail)
              go_wp2_with fail
              go_roundw
              case rel => exact ⟨k + 1, by omega, by congr 1, by rw [P3.out]; congr 1, below_drewN' BW.out _⟩
              case measure => simp only [intOf]; omega
          · obtain rfl : k = q := by omega
            have p5 := P5.out
            obtain ⟨bk, hbk⟩ : ∃ x, x = bz T k := ⟨_, rfl⟩
            rw [← hbk] at p5 ⊢
            have hd7 : decide (s < (bk : Int)) = false := decide_eq_false (by omega)
            have BW := Lib.hid hbw
            clear hbw hbk p5
            go_wp2_with fail
            go_roundw
            case rel => exact ⟨i + 1, by omega, by congr 1, BW.out⟩
            case measure => simp only [intOf]; omega
    · obtain rfl : i = q := by omega
      have BW := Lib.hid (B1.out.trans ((B5.out.trans (hbw.mono B5.out.size)).mono B1.out.size))
      clear hbw
      go_wp2_with fail
      refine (DrawServe_any hn' BW.out HC.out).mono ?_
      rintro e w7 ⟨v2, q2, z2, t2, s2, hq2, rfl, hr2, hb2⟩
      have hqm2 : q2 ≤ maxLen := by unfold maxLen; omega
      have hI2 := fun W (hW : Below w7.heap.size w7 W) => iServe_v q2 hqm2 z2 v2 t2 s2 W (hr2.later hW)
      have hS2 := fun W (hW : Below w7.heap.size w7 W) => sServe_v q2 hqm2 z2 v2 t2 s2 W (hr2.later hW)
      have hD2 := fun W (hW : Below w7.heap.size w7 W) => iDropped_v q2 hqm2 z2 v2 t2 s2 W (hr2.later hW)
      have hE2 := fun W (hW : Below w7.heap.size w7 W) => sDropped_v q2 hqm2 z2 v2 t2 s2 W (hr2.later hW)
      obtain ⟨pl2, cl2, gl2, ol2, rfl, hcl2, -⟩ := hr2
      obtain ⟨f2, hf2⟩ : ∃ f, f = svO t2 s2.toNat z2 := ⟨_, rfl⟩
      obtain ⟨n2, hn2⟩ : ∃ f, f = svN q2 z2 t2 s2 := ⟨_, rfl⟩
      obtain ⟨D, hD⟩ : ∃ f, f = drI q2 z2 t2 s2 := ⟨_, rfl⟩
      have hnn : n2 ≤ maxLen := by rw [hn2]; exact Nat.le_trans (svN_le _ _ _ _) (by unfold maxLen; omega)
      rw [← hf2, ← hn2] at hI2 hS2
      rw [← hD] at hD2 hE2
      have HI2 := Lib.hid hI2
      have HS2 := Lib.hid hS2
      have HD2 := Lib.hid hD2
      have HE2 := Lib.hid hE2
      have B7 := Lib.hid (BW.out.trans (hb2.mono BW.out.size))
      have hDD : (D == D) = true := by simp
      clear hI2 hS2 hD2 hE2 hf2 hn2 hD hb2
      go_wp2_with fail
      refine (HI2.out _ (Below.refl _ _)).mono ?_
      rintro e w8 ⟨vx2, rfl, hO, hb⟩
      have RX8 := Lib.hid (hO.rd (Nat.le_refl _))
      obtain ⟨px2, cx2, gx2, ox2, rfl, hcx2, -, -⟩ := hO
      have B8 := Lib.hid hb
      clear hb
      go_wp2_with fail
      refine (HS2.out _ B8.out).mono ?_
      rintro e w9 ⟨vy2, rfl, hO, hb⟩
      have RY9 := Lib.hid (hO.rd (Nat.le_refl _))
      obtain ⟨py2, cy2, gy2, oy2, rfl, hcy2, -, -⟩ := hO
      have RX9 := Lib.hid (RX8.out.later hb)
      have B9 := Lib.hid (B8.out.trans (hb.mono B8.out.size))
      clear hb
      go_wp2_with fail
      refine (sameInts2_v n2 hnn f2 _ _ _ RX9.out RY9.out).mono ?_
      rintro e w10 ⟨rfl, hb⟩
      have B10 := Lib.hid (B9.out.trans (hb.mono B9.out.size))
      clear hb
      go_wp2_with fail
      refine (HD2.out _ B10.out).mono ?_
      rintro e w11 ⟨rfl, hb⟩
      have B11 := Lib.hid (B10.out.trans (hb.mono B10.out.size))
      clear hb
      go_wp2_with fail
      refine (HE2.out _ B11.out).mono ?_
      rintro e w12 ⟨rfl, hb⟩
      have B12 := Lib.hid (B11.out.trans (hb.mono B11.out.size))
      clear hb
      go_wp2_with fail
      go_ret
      exact ⟨rfl, B7.out.trans (B12.out.mono B7.out.size)⟩

/-! The row's step. -/
theorem own : ownKnob Try.prog.godebug = none := by kernel_rfl
theorem laidOut : laidOutB Try.prog = true := by kernel_rfl
set_option maxRecDepth 100000 in
theorem lifted (os : Os) (started : os.Started) (H : Type) (enc : TypeId × Value → H) :
    ReturnsInHanded {} Try.checked os 14 .any (Rows.fnServedSpec.pre6 enc Try.prog Try.f14 Rows.fnServedRow.domain false) (Rows.fnServedSpec.post enc Try.prog Try.f14 false true false false) := by
  refine returnsInHanded_of_change (C := Try.checked) own started (by kernel_rfl) Try.func14
    (ChangeSpec.witness6 (enc := enc) (C := Try.checked) false ⟨#[], #[.slice none 0 0], []⟩ 8 (by kernel_rfl) (by kernel_rfl) (by kernel_rfl) (by kernel_rfl)) ?_
  intro W base args ds gs before hval0 hW hcnd _
  have hval : ∀ (j : Nat) t v, Try.f14.params[j]? = some t → args[j]? = some v → Value.okWide Try.prog W .any base t v := hval0
  have hW' := hW
  obtain ⟨p, q, hA0, hV, rfl, hfz, hnd⟩ := hW
  have hA : DataW.TrodAll enc Try.prog W 0 (fun _ => true) true Try.f14.params.toList args.toList ds p := hA0
  rw [Try.params14] at hA hval
  obtain ⟨v0, vs0, d0, ds0, p0, q0, hargs, rfl, rfl, h0, r0⟩ := trodAll_cons hA
  obtain ⟨rfl, rfl, rfl⟩ := trodAll_nil r0
  obtain rfl : args = #[v0] := by cases args; simp_all
  obtain ⟨rfl, rfl⟩ := trodVars_none hV
  have k0 := h0
  have lt0 : ∀ x ∈ p0, x.block < W.heap.size := by obtain ⟨m, hm⟩ := k0; exact DataW.trod_lt m _ _ _ hm
  obtain ⟨sp0, ln0, cp0, rfl⟩ := okWide_slice Try.underlying60 (hval 0 60 v0 rfl rfl)
  obtain ⟨gc0, oc0, w0, cd0⟩ := code_open h0
  clear hA0 hval0
  refine (walk sp0 ln0 cp0 gc0 oc0 W w0 cd0).mono fun e W' ⟨he, bel⟩ => ?_
  subst he
  exact ⟨_, rfl, _, _, _, [], _, [], hW', trodAll_mk1 (shut_bool Try.underlying4 _), (trodAll_cons_mk (Below.trod laidOut (by kernel_rfl) (of_decide_eq_true (by kernel_rfl)) k0 bel lt0) trodAll_mk0), rfl, bel.frame _, fun h => by cases h⟩

theorem over : Rows.fnServedRow.holds Try.pinned (OpenSpec.ofChange Rows.fnServedSpec) :=
  OpenClaim.holds_of_wide 14 Try.f14 rfl rfl rfl rfl rfl rfl rfl ⟨rfl, rfl, rfl, rfl, rfl⟩ rfl rfl rfl rfl rfl (by kernel_rfl) Try.func14 (by kernel_rfl)
    (of_decide_eq_true (by kernel_rfl)) (by unfold Func.isWrapper; first | (rw [if_pos (by decide +kernel)]; kernel_rfl) | (rw [if_neg (by decide +kernel)]; exact ⟨rfl, rfl⟩))
    (fun os started H enc _ => lifted os started H enc)

/-- The statement. -/
theorem proved : Rows.FnServedSaid := over
#print axioms proved
end Go.Proofs.Ytkdlhapbbnggoaa.fnServed
