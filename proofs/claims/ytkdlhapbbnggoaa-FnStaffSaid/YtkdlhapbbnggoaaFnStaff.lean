/- For every code FnStaff returns true, and the code reads as before. No condition. -/
import Derived.Test.YtkdlhapbbnggoaaRows
import Derived.Test.YtkdlhapbbnggoaaDrawImg
import Derived.Test.YtkdlhapbbnggoaaStaffPlain
import Derived.Test.YtkdlhapbbnggoaaLeastI
import Derived.Test.YtkdlhapbbnggoaaLeastS
import Derived.Test.YtkdlhapbbnggoaaMostI
import Derived.Test.YtkdlhapbbnggoaaMostS
import Derived.Test.YtkdlhapbbnggoaaBig
import Derived.Deep.CutRange
import Derived.OpenShut
import Derived.ChangeOld
import Derived.Lib.SmallJoins
namespace Go.Proofs.Ytkdlhapbbnggoaa.fnStaff
open Go.ChangeShapes Go.WideShapes Go.ChangeAt Go.RowKit
set_option linter.unusedVariables false

set_option maxRecDepth 100000 in
set_option maxHeartbeats 8000000 in
theorem walk (p : Option Addr) (n cap gc oc : Nat) (w : World) (hn : n ≤ maxLen) (hC : Code w.heap.size n w p gc oc) :
    Calls Try.prog 13 #[.slice p n cap] w fun e w' => e = .returned (.bool true) ∧ Below w.heap.size w w' := by
  have hbg := Lib.hid (big_any p n cap hn w)
  by_cases hbig : 1048576 < n
  · have hd : decide (1048576 < n) = true := decide_eq_true hbig
    simp only [hd] at hbg
    clear hC hbig hd hn
    go_enter Try.func13, Try.ntmps13
    go_wp2_with (go_at_call 47; refine hbg.out.mono ?_; rintro e w' ⟨rfl, rfl⟩)
    go_ret
    exact ⟨rfl, Below.refl _ _⟩
  have hd : decide (1048576 < n) = false := decide_eq_false hbig
  simp only [hd] at hbg
  have hn' : n ≤ 1048576 := by omega
  have HC := Lib.hid hC
  clear hC hbig hd hn
  go_enter Try.func13, Try.ntmps13
  go_wp2_with (go_at_call 47; refine hbg.out.mono ?_; rintro e w' ⟨rfl, rfl⟩)
  refine (DrawImages_any hn' (Below.refl _ _) HC.out).mono ?_
  rintro e w1 ⟨v, q, z, t, s, hq, hI, ht, hs, rfl, hr, hb1⟩
  have hv : SvP q z t s := ⟨hI, by omega, by omega⟩
  have hv16 : SvP q z t 16 := ⟨hI, by omega, by omega⟩
  obtain ⟨l1, l2, l3, l4⟩ := lsI_is hv16
  have hm := ms_ge hv (by omega)
  have hd0 := drI_ge hv
  have hmx : drI q z t s ≤ q := by rw [drI_yes hv]; have := drK_le (t := t) (m := s.toNat) (z := z) q; omega
  have hm8 : msI q z t s ≤ q := by rw [msI_yes hv (by omega)]; have := msK_le (n := q) (z := z) (t := t) (m := s.toNat) (2 ^ q); omega
  have hqm : q ≤ maxLen := by unfold maxLen; omega
  have hLI := fun W (hW : Below w1.heap.size w1 W) => iLeastStaff_v q hqm z v t W (hr.later hW)
  have hLS := fun W (hW : Below w1.heap.size w1 W) => sLeastStaff_v q hqm z v t W (hr.later hW)
  have hDI := fun (x : Int) W (hW : Below w1.heap.size w1 W) => iDropped_v q hqm z v t x W (hr.later hW)
  have hDS := fun (x : Int) W (hW : Below w1.heap.size w1 W) => sDropped_v q hqm z v t x W (hr.later hW)
  have hMI := fun W (hW : Below w1.heap.size w1 W) => iMost_v q hqm z v t s W (hr.later hW)
  have hMS := fun W (hW : Below w1.heap.size w1 W) => sMost_v q hqm z v t s W (hr.later hW)
  have hDI2 := fun W (hW : Below w1.heap.size w1 W) => iDropped_v q hqm z v t s W (hr.later hW)
  obtain ⟨pv, cv, gv, ov, rfl, hcv, -⟩ := hr
  obtain ⟨r, hrr⟩ : ∃ r, r = lsI q z t := ⟨_, rfl⟩
  rw [← hrr] at hLI hLS l1 l2 l3 l4
  obtain ⟨M, hMM⟩ : ∃ r, r = msI q z t s := ⟨_, rfl⟩
  rw [← hMM] at hMI hMS hm hm8
  obtain ⟨D, hDD⟩ : ∃ r, r = drI q z t s := ⟨_, rfl⟩
  rw [← hDD] at hDI2 hm hd0 hmx
  obtain ⟨dr, hdr⟩ : ∃ f, f = drI q z t := ⟨_, rfl⟩
  rw [← hdr] at hDI hDS l4
  have HLI := Lib.hid hLI
  have HLS := Lib.hid hLS
  have HDI := Lib.hid hDI
  have HDS := Lib.hid hDS
  have HMI := Lib.hid hMI
  have HMS := Lib.hid hMS
  have HDI2 := Lib.hid hDI2
  have HL4 := Lib.hid l4
  have B1 := Lib.hid hb1
  clear hLI hLS hDI hDS hMI hMS hDI2 l4 hb1 hrr hMM hDD hdr hI hv hv16 hbg
  have n1 : (r != r) = false := by simp
  have n2 : decide (r < 1) = false := decide_eq_false (by omega)
  have n3 : decide (1 < r) = decide (1 < r) := rfl
  have fin : decide ((q : Int) - D ≤ M) = true := decide_eq_true (by omega)
  clear n3
  go_wp2_with fail
  refine (HLI.out _ (Below.refl _ _)).mono ?_
  rintro e w2 ⟨rfl, hb⟩
  have B2 := Lib.hid hb
  clear hb
  go_wp2_with fail
  refine (HLS.out _ B2.out).mono ?_
  rintro e w3 ⟨rfl, hb⟩
  have B3 := Lib.hid (B2.out.trans (hb.mono B2.out.size))
  clear hb
  go_upto_region 7 with fail
  go_cut [6, 7] from 17 to 35 (fun s6 s7 wx => s6 = .int .i64 r ∧ s7 = .int .i64 1 ∧ Below w1.heap.size w1 wx)
  case first =>
    by_cases hq2 : (1 : Int) < q
    · have n4 : decide ((q : Int) < r) = false := decide_eq_false (by omega)
      go_wp2_with fail
      all_goals
        go_meet
        exact ⟨rfl, rfl, B3.out⟩
    · by_cases hq1 : (q : Int) = 1
      · have n4 : decide ((1 : Int) < r) = false := decide_eq_false (by omega)
        have n5 : decide ((q : Int) < r) = false := decide_eq_false (by omega)
        go_wp2_with fail
        all_goals
          go_meet
          exact ⟨rfl, rfl, B3.out⟩
      · have n4 : decide ((1 : Int) < r) = false := decide_eq_false (by omega)
        have n6 : (q : Int) < 1 := by omega
        go_wp2_with fail
        all_goals
          go_meet
          exact ⟨rfl, rfl, B3.out⟩
  case rest =>
    obtain ⟨rfl, rfl, hbc⟩ := hcut
    have BC := Lib.hid hbc
    clear hbc
    go_wp2_with fail
    go_loopw [7] (fun kv wr => ∃ k : Nat, 1 ≤ k ∧ k ≤ 17 ∧ kv = .int .i64 (k : Int) ∧ Below w1.heap.size w1 wr) (fun kv _ => 17 - (intOf kv).toNat)
    case atStart => exact ⟨1, by omega, by omega, rfl, BC.out⟩
    case round =>
      obtain ⟨k, hk1, hk2, rfl, hbw⟩ := hrel
      by_cases hk : k ≤ 16
      · have h4 := HL4.out (k : Int) (by omega) (by omega)
        have c1 := fun W hW => HDI.out (k : Int) W hW
        have c2 := fun W hW => HDS.out (k : Int) W hW
        obtain ⟨d, hdd⟩ : ∃ d, d = dr (k : Int) := ⟨_, rfl⟩
        rw [← hdd] at h4 c1 c2
        have C1 := Lib.hid c1
        have C2 := Lib.hid c2
        clear c1 c2 hdd
        have hkd : decide ((k : Int) ≤ 16) = true := decide_eq_true (by omega)
        have n7 : (d != d) = false := by simp
        by_cases h0 : d = 0
        · have e1 : decide (r ≤ (k : Int)) = true := decide_eq_true (h4.1 h0)
          subst h0
          clear h4
          go_wp2_with fail
          refine (C1.out _ hbw).mono ?_
          rintro e w4 ⟨rfl, hb⟩
          have B4 := Lib.hid (hbw.trans (hb.mono hbw.size))
          clear hb
          go_wp2_with fail
          refine (C2.out _ B4.out).mono ?_
          rintro e w5 ⟨rfl, hb⟩
          have B5 := Lib.hid (B4.out.trans (hb.mono B4.out.size))
          clear hb
          go_wp2_with fail
          go_roundw
          case rel => exact ⟨k + 1, by omega, by omega, by congr 1, B5.out⟩
          case measure => simp only [intOf]; omega
        · have e1 : decide (r ≤ (k : Int)) = false := decide_eq_false (fun h => h0 (h4.2 h))
          have e2 : (d == 0) = false := by simpa using h0
          clear h4 h0
          go_wp2_with fail
          refine (C1.out _ hbw).mono ?_
          rintro e w4 ⟨rfl, hb⟩
          have B4 := Lib.hid (hbw.trans (hb.mono hbw.size))
          clear hb
          go_wp2_with fail
          refine (C2.out _ B4.out).mono ?_
          rintro e w5 ⟨rfl, hb⟩
          have B5 := Lib.hid (B4.out.trans (hb.mono B4.out.size))
          clear hb
          go_wp2_with fail
          go_roundw
          case rel => exact ⟨k + 1, by omega, by omega, by congr 1, B5.out⟩
          case measure => simp only [intOf]; omega
      · have hkd : decide ((k : Int) ≤ 16) = false := decide_eq_false (by omega)
        have n8 : (M == M) = true := by simp
        go_wp2_with fail
        refine (HMI.out _ hbw).mono ?_
        rintro e w4 ⟨rfl, hb⟩
        have B4 := Lib.hid (hbw.trans (hb.mono hbw.size))
        clear hb
        go_wp2_with fail
        refine (HMS.out _ B4.out).mono ?_
        rintro e w5 ⟨rfl, hb⟩
        have B5 := Lib.hid (B4.out.trans (hb.mono B4.out.size))
        clear hb
        go_wp2_with fail
        refine (HMI.out _ B5.out).mono ?_
        rintro e w6 ⟨rfl, hb⟩
        have B6 := Lib.hid (B5.out.trans (hb.mono B5.out.size))
        clear hb
        go_wp2_with fail
        refine (HDI2.out _ B6.out).mono ?_
        rintro e w7 ⟨rfl, hb⟩
        have B7 := Lib.hid (B6.out.trans (hb.mono B6.out.size))
        clear hb
        go_wp2_with fail
        go_ret
        exact ⟨rfl, B1.out.trans (B7.out.mono B1.out.size)⟩

/-! The row's step. -/
theorem own : ownKnob Try.prog.godebug = none := by kernel_rfl
theorem laidOut : laidOutB Try.prog = true := by kernel_rfl
set_option maxRecDepth 100000 in
theorem lifted (os : Os) (started : os.Started) (H : Type) (enc : TypeId × Value → H) :
    ReturnsInHanded {} Try.checked os 13 .any (Rows.fnStaffSpec.pre6 enc Try.prog Try.f13 Rows.fnStaffRow.domain false) (Rows.fnStaffSpec.post enc Try.prog Try.f13 false true false false) := by
  refine returnsInHanded_of_change (C := Try.checked) own started (by kernel_rfl) Try.func13
    (ChangeSpec.witness6 (enc := enc) (C := Try.checked) false ⟨#[], #[.slice none 0 0], []⟩ 8 (by kernel_rfl) (by kernel_rfl) (by kernel_rfl) (by kernel_rfl)) ?_
  intro W base args ds gs before hval0 hW hcnd _
  have hval : ∀ (j : Nat) t v, Try.f13.params[j]? = some t → args[j]? = some v → Value.okWide Try.prog W .any base t v := hval0
  have hW' := hW
  obtain ⟨p, q, hA0, hV, rfl, hfz, hnd⟩ := hW
  have hA : DataW.TrodAll enc Try.prog W 0 (fun _ => true) true Try.f13.params.toList args.toList ds p := hA0
  rw [Try.params13] at hA hval
  obtain ⟨v0, vs0, d0, ds0, p0, q0, hargs, rfl, rfl, h0, r0⟩ := trodAll_cons hA
  obtain ⟨rfl, rfl, rfl⟩ := trodAll_nil r0
  obtain rfl : args = #[v0] := by cases args; simp_all
  obtain ⟨rfl, rfl⟩ := trodVars_none hV
  have k0 := h0
  have lt0 : ∀ x ∈ p0, x.block < W.heap.size := by obtain ⟨m, hm⟩ := k0; exact DataW.trod_lt m _ _ _ hm
  obtain ⟨sp0, ln0, cp0, rfl⟩ := okWide_slice Try.underlying60 (hval 0 60 v0 rfl rfl)
  obtain ⟨gc0, oc0, w0, cd0⟩ := code_open h0
  clear hA0 hval0
  refine (walk sp0 ln0 cp0 gc0 oc0 W w0 cd0).mono fun e W' ⟨he, bel⟩ => ?_
  subst he
  exact ⟨_, rfl, _, _, _, [], _, [], hW', trodAll_mk1 (shut_bool Try.underlying4 _), (trodAll_cons_mk (Below.trod laidOut (by kernel_rfl) (of_decide_eq_true (by kernel_rfl)) k0 bel lt0) trodAll_mk0), rfl, bel.frame _, fun h => by cases h⟩

theorem over : Rows.fnStaffRow.holds Try.pinned (OpenSpec.ofChange Rows.fnStaffSpec) :=
  OpenClaim.holds_of_wide 13 Try.f13 rfl rfl rfl rfl rfl rfl rfl ⟨rfl, rfl, rfl, rfl, rfl⟩ rfl rfl rfl rfl rfl (by kernel_rfl) Try.func13 (by kernel_rfl)
    (of_decide_eq_true (by kernel_rfl)) (by unfold Func.isWrapper; first | (rw [if_pos (by decide +kernel)]; kernel_rfl) | (rw [if_neg (by decide +kernel)]; exact ⟨rfl, rfl⟩))
    (fun os started H enc _ => lifted os started H enc)

/-- The statement. -/
theorem proved : Rows.FnStaffSaid := over
#print axioms proved
end Go.Proofs.Ytkdlhapbbnggoaa.fnStaff
