/- For every code FnFieldsAgain returns true, and the code reads as before; the listed tables of strconv and math/bits are tied to the program's text. No other condition. -/
import Derived.Test.YtopkdkehkdhmgabDoorCards
import Derived.Test.YtopkdkehkdhmgabDoorTie
import Derived.Test.YtopkdkehkdhmgabDoorLaid
import Derived.Test.YtopkdkehkdhmgabDoorAgainLaw
import Derived.Test.YtopkdkehkdhmgabDoorAgainDraw
import Derived.Test.YtopkdkehkdhmgabDoorBig
import Derived.OpenShut
import Derived.ChangeOld
import Derived.Lib.SmallJoins
import Derived.LaidMore
import Derived.Stop.LaidErr
import Derived.Stop.Joined
import Derived.SevenTiedAt
namespace Go.Proofs.YtopkdkehkdhmgabDoor.fnFieldsAgain
open Go.ChangeShapes Go.WideShapes Go.ChangeAt Go.RowKit
set_option linter.unusedVariables false

set_option maxRecDepth 100000 in
set_option maxHeartbeats 4000000 in
theorem walk (p : Option Addr) (n cap gc oc : Nat) (w : World) (hn : n ≤ maxLen) (hC : Code w.heap.size n w p gc oc) (htab : Lib.TabIs Tryd.prog w "internal/strconv.uint64pow10" .u64 Lib.pow10Tab) :
    Calls Tryd.prog 5 #[.slice p n cap] w fun e w' => e = .returned (.bool true) ∧ Below w.heap.size w w' := by
  have hbg := Lib.hid (big_any p n cap hn w)
  by_cases hbig : 1048576 < n
  · have hd : decide (1048576 < n) = true := decide_eq_true hbig
    rw [hd] at hbg
    clear htab hC
    go_enter Tryd.func5, Tryd.ntmps5
    go_wp2_with (go_at_call 7; refine hbg.out.mono ?_; rintro e w' ⟨rfl, rfl⟩)
    go_ret
    exact ⟨rfl, Below.refl _ _⟩
  · have hd : decide (1048576 < n) = false := decide_eq_false hbig
    rw [hd] at hbg
    have hT := Lib.hid (Lib.tabBelow_of_tabIs htab)
    have HDR := Lib.hid (drawSplit_any (cap := cap) (by omega) (Nat.le_refl _) hC)
    clear htab hC hbig hd hn
    go_enter Tryd.func5, Tryd.ntmps5
    go_wp2_with (go_at_call 7; refine hbg.out.mono ?_; rintro e w' ⟨rfl, rfl⟩)
    refine HDR.out.mono ?_
    clear HDR hbg
    rintro e w1 ⟨s, hs, rfl, hb1⟩
    have HB1 := Lib.hid hb1
    have hs1 := hb1.size
    clear hb1
    have HI := Lib.hid (ifld_any s (by omega) w1)
    have HSp := Lib.hid (fun W => sfld_any s (by omega) W)
    go_wp2_with fail
    refine HI.out.mono ?_
    clear HI
    by_cases hg : fgood s
    · rintro e w2 ⟨v, m, xs, ok, rfl, hown, hb2, hcase⟩
      obtain ⟨rfl, hm, hx⟩ : ok = true ∧ m = (flds s.data.toList s.size).length ∧ xs = strsOf s (flds s.data.toList s.size) := by
        rcases hcase with ⟨-, h1, h2, h3⟩ | ⟨h0, -⟩
        · exact ⟨h1, h2, h3⟩
        · exact absurd hg h0
      rw [hx, strs_texts] at hown
      obtain ⟨p0, c0, g0, rfl, hp0, hc0⟩ := row_cells hown
      have hml : m = (textsOf s).length := by rw [hm]; unfold textsOf; rw [List.length_map]
      have hm24 : m ≤ 24 := by rw [hm]; exact hg.2.2
      have hs6 : s.size ≤ 600 := hg.1
      have HG := Lib.hid hg
      have HML := Lib.hid hml
      have P0 := Lib.hid hp0
      have C0 := Lib.hid hc0
      have HB2 := Lib.hid (HB1.out.trans (hb2.mono hs1))
      have hs2 := HB2.out.size
      clear hcase hm hx hown hb2 hp0 hc0 hml HB1 xs hs
      go_wp2_with fail
      refine (HSp.out _).mono ?_
      clear HSp
      rintro e w3 ⟨v3, m3, xs3, ok3, rfl, -, hb3, hcase⟩
      obtain rfl : ok3 = true := by
        rcases hcase with ⟨-, h1, -⟩ | ⟨h0, -⟩
        · exact h1
        · exact absurd HG.out h0
      have HB3 := Lib.hid (HB2.out.trans (hb3.mono hs2))
      have hs23 := hb3.size
      have C3 := Lib.hid (fun j (hj : j < m) => (hb3.cell (p := ⟨g0, j, none⟩) (P0.out (by omega)).2).trans (C0.out j hj))
      have P3 := Lib.hid (fun h : 0 < m => (⟨(P0.out h).1, Nat.lt_of_lt_of_le (P0.out h).2 hs23⟩ : p0 = some ⟨g0, 0, none⟩ ∧ g0 < w3.heap.size))
      have hs3 := HB3.out.size
      clear hcase hb3 P0 C0 hs23 HB2
      go_wp2_with fail
      go_loopw [8, 9] (fun sv iv wr => ∃ (k : Nat) (T : ByteArray), k ≤ m ∧ iv = .int .i64 (k : Int) ∧ .string T = sv ∧ T.size ≤ k * 601 ∧ Hid (T.data.toList = joined ((fieldsOf s).take k)) ∧ Below w3.heap.size w3 wr) (fun _ iv _ => m - (intOf iv).toNat)
      case atStart => exact ⟨0, ByteArray.empty, by omega, rfl, rfl, by simp, rfl, Below.refl _ _⟩
      case round =>
        obtain ⟨k, T, hk, rfl, rfl, hTs, hTd, hbr⟩ := hrel
        by_cases hkm : k < m
        · obtain ⟨rfl, hg0⟩ := P3.out (by omega)
          have a0 := (hbr.cell (p := ⟨g0, k, none⟩) hg0).trans (C3.out k hkm)
          have hz := texts_size s hs6 k
          have HST := Lib.hid (joined_step s T k (by rw [← HML.out]; exact hkm) hTd.out)
          obtain ⟨X, hX⟩ : ∃ X, X = (textsOf s).getD k ByteArray.empty := ⟨_, rfl⟩
          rw [← hX] at a0 hz HST
          have HBR := Lib.hid hbr
          have hk0 : (0 : Int) ≤ (k : Int) := by omega
          have hkl : (k : Int) < (m : Int) := by omega
          clear hX hbr hTd
          go_wp2_with fail
          go_roundw
          case rel => exact ⟨k + 1, T ++ X ++ ⟨#[32]⟩, by omega, by go_num, rfl, by rw [ByteArray.size_append, ByteArray.size_append]; show _ + 1 ≤ _; omega, HST, HBR.out⟩
          case measure => simp [intOf]; omega
        · obtain rfl : k = m := by omega
          have hTd2 : T.data.toList = joined (fieldsOf s) := by
            have h := hTd.out
            rwa [List.take_of_length_le (by rw [← texts_fields, List.length_map, ← HML.out]; exact Nat.le_refl _)] at h
          obtain ⟨hgT, hlT, hsT⟩ := again s T HG.out hTd2
          have hTz : T.size ≤ 1048576 := by omega
          have HIT := Lib.hid (ifld_any T hTz wr)
          have HBR := Lib.hid (HB3.out.trans (hbr.mono hs3))
          have hsr := HBR.out.size
          have hC := Lib.hid (fun j (hj : j < k) => (hbr.cell (p := ⟨g0, j, none⟩) (P3.out (by omega)).2).trans (C3.out j hj))
          have hP := Lib.hid (fun h : 0 < k => (⟨(P3.out h).1, Nat.lt_of_lt_of_le (P3.out h).2 hbr.size⟩ : p0 = some ⟨g0, 0, none⟩ ∧ g0 < wr.heap.size))
          have HGT := Lib.hid hgT
          have HST := Lib.hid hsT
          have HLT := Lib.hid hlT
          clear hTd hTd2 hgT hlT hsT hbr hkm
          go_wp2_with fail
          refine HIT.out.mono ?_
          clear HIT
          by_cases h6 : T.size ≤ 600
          · rintro e w4 ⟨v4, m4, xs4, ok4, rfl, hown4, hb4, hcase⟩
            obtain ⟨rfl, rfl, rfl⟩ : ok4 = true ∧ m4 = k ∧ xs4 = (textsOf s).map Value.string := by
              rcases hcase with ⟨-, h1, h2, h3⟩ | ⟨h0, -⟩
              · refine ⟨h1, ?_, ?_⟩
                · rw [h2, HLT.out, HML.out]; unfold textsOf; rw [List.length_map]
                · rw [h3, HST.out, strs_texts]
              · exact absurd (HGT.out.2 h6) h0
            obtain ⟨p4, c4, g4, rfl, hp4, hc4⟩ := row_cells hown4
            have HSM := Lib.hid (sameTexts_any m4 (by omega) (textsOf s) p0 p4 c0 c4 g0 g4 w4 (fun h => ⟨(hP.out h).1, Nat.lt_of_lt_of_le (hP.out h).2 hb4.size⟩) hp4 (fun j hj => (hb4.cell (p := ⟨g0, j, none⟩) (hP.out (by omega)).2).trans (hC.out j hj)) hc4)
            have HB4 := Lib.hid (HBR.out.trans (hb4.mono hsr))
            have hs4 := HB4.out.size
            have hd6 : decide ((600 : Int) < (T.size : Int)) = false := decide_eq_false (by omega)
            clear hcase hown4 hp4 hc4 hb4
            go_wp2_with fail
            refine HSM.out.mono ?_
            rintro e w5 ⟨rfl, hb5⟩
            have HB5 := Lib.hid (HB4.out.trans (hb5.mono hs4))
            clear hb5 HSM
            go_wp2_with fail
            go_ret
            exact ⟨rfl, HB5.out⟩
          · rintro e w4 ⟨v4, m4, xs4, ok4, rfl, hown4, hb4, -⟩
            obtain ⟨p4, c4, g4, rfl, -, -⟩ : ∃ p4 c4 g4, v4 = .slice p4 m4 c4 ∧ True ∧ (g4 : Nat) = 0 := by
              obtain ⟨p4, c4, h4⟩ := fld_form hown4
              exact ⟨p4, c4, 0, h4, trivial, rfl⟩
            have HB4 := Lib.hid (HBR.out.trans (hb4.mono hsr))
            have hd6 : decide ((600 : Int) < (T.size : Int)) = true := decide_eq_true (by omega)
            clear hown4 hb4
            go_wp2_with fail
            go_ret
            exact ⟨rfl, HB4.out⟩
    · rintro e w2 ⟨v, m, xs, ok, rfl, hown, hb2, hcase⟩
      obtain ⟨rfl, rfl⟩ : ok = false ∧ m = 0 := by
        rcases hcase with ⟨h0, -⟩ | ⟨-, h1, h2, -⟩
        · exact absurd h0 hg
        · exact ⟨h1, h2⟩
      obtain ⟨p0, c0, rfl⟩ := fld_form hown
      have HB2 := Lib.hid (HB1.out.trans (hb2.mono hs1))
      have hs2 := HB2.out.size
      have HG := Lib.hid hg
      clear hcase hown hb2 HB1 hg
      go_wp2_with fail
      refine (HSp.out _).mono ?_
      clear HSp
      rintro e w3 ⟨v3, m3, xs3, ok3, rfl, -, hb3, hcase⟩
      obtain rfl : ok3 = false := by
        rcases hcase with ⟨h0, -⟩ | ⟨-, h1, -⟩
        · exact absurd h0 HG.out
        · exact h1
      have HB3 := Lib.hid (HB2.out.trans (hb3.mono hs2))
      have hs3 := HB3.out.size
      have HF := Lib.hid (fint_m3 w3 (hT.out _ HB3.out))
      clear hcase hb3 HB2
      go_wp2_with fail
      refine HF.out.mono ?_
      rintro e w4 ⟨rfl, hb4⟩
      have HB4 := Lib.hid (HB3.out.trans (hb4.mono hs3))
      clear hb4 HF
      go_wp2_with fail
      go_ret
      exact ⟨rfl, HB4.out⟩

/-! The row's step. -/
theorem own : ownKnob Tryd.prog.godebug = none := by kernel_rfl
theorem laidOut : laidOutB Tryd.prog = true := by kernel_rfl
theorem door_met (os : Os) (args : Array Value) : laidMetH Tryd.prog Rows.fnFieldsAgainRow.laid ((World.doorLaid Tryd.prog 400 os).forCall (fun _ _ => 0) ⟨#[], args, []⟩).memory :=
  laidMetH_of_parts3 (fuel := 8) (laidMet_of_run' 8 (by kernel_rfl) (by kernel_rfl)) (by kernel_rfl) (by kernel_rfl)
set_option maxRecDepth 100000 in
theorem lifted (os : Os) (started : os.Started) (H : Type) (enc : TypeId × Value → H) :
    ReturnsInHanded {} Tryd.checked os 5 .any (fun w args => (Rows.fnFieldsAgainSpec.pre enc Tryd.prog Tryd.f5 [] false w args ∧ laidMetH Tryd.prog Rows.fnFieldsAgainRow.laid w) ∧ sizedMet enc Tryd.prog Tryd.f5 (OpenSpec.ofChange Rows.fnFieldsAgainSpec) false w args) (Rows.fnFieldsAgainSpec.post enc Tryd.prog Tryd.f5 false true false false) := by
  refine returnsInHanded_of_change_and (C := Tryd.checked) (X := fun w _ => laidMetH Tryd.prog Rows.fnFieldsAgainRow.laid w) (fun _ _ _ hh h => h.of_heap hh) own started (by kernel_rfl) Tryd.func5
    (ChangeSpec.witness_shaped (enc := enc) (C := Tryd.checked) (os := os) (X := fun w _ => laidMetH Tryd.prog Rows.fnFieldsAgainRow.laid w) false (World.doorLaid Tryd.prog 400 os) #[.slice none 0 0] 8 rfl (World.shaped_of_RefB (by kernel_rfl) (by kernel_rfl)) (by kernel_rfl) (by kernel_rfl) (by kernel_rfl) (door_met os _)) ?_
  intro W base args ds gs before hval0 hW hcnd hsz hLH _
  have hval : ∀ (j : Nat) t v, Tryd.f5.params[j]? = some t → args[j]? = some v → Value.okWide Tryd.prog W .any base t v := hval0
  have hW' := hW
  obtain ⟨p, q, hA0, hV, rfl, hfz, hnd⟩ := hW
  have hA : DataW.TrodAll enc Tryd.prog W 0 (fun _ => true) true Tryd.f5.params.toList args.toList ds p := hA0
  rw [Tryd.params5] at hA hval
  obtain ⟨v0, vs0, d0, ds0, p0, q0, hargs, rfl, rfl, h0, r0⟩ := trodAll_cons hA
  obtain ⟨rfl, rfl, rfl⟩ := trodAll_nil r0
  obtain rfl : args = #[v0] := by cases args; simp_all
  obtain ⟨rfl, rfl⟩ := trodVars_none hV
  have k0 := h0
  have lt0 : ∀ x ∈ p0, x.block < W.heap.size := by obtain ⟨m, hm⟩ := k0; exact DataW.trod_lt m _ _ _ hm
  obtain ⟨sp0, ln0, cp0, rfl⟩ := okWide_slice Tryd.underlying22 (hval 0 22 v0 rfl rfl)
  obtain ⟨gc0, oc0, w0, cd0⟩ := code_open h0
  clear hA0 hval0
  have hL : laidMet Tryd.prog Rows.fnFieldsAgainRow.laid W := by rw [MakeChecks.laidMetH_plain _ _ _ (by kernel_rfl)] at hLH; exact hLH
  refine (walk sp0 ln0 cp0 gc0 oc0 W w0 cd0 (tab_of_laid (laidMet.tail (laidMet.tail hL)))).mono fun e W' ⟨he, bel⟩ => ?_
  subst he
  exact ⟨_, rfl, _, _, _, [], _, [], hW', trodAll_mk1 (shut_bool Tryd.underlying4 _), (trodAll_cons_mk (Below.trod laidOut (by kernel_rfl) (of_decide_eq_true (by kernel_rfl)) k0 bel lt0) trodAll_mk0), rfl, bel.frame _, fun h => by cases h⟩

theorem over : Rows.FnFieldsAgainSaid :=
  OpenClaim.holds_of_wide 5 Tryd.f5 rfl rfl rfl rfl rfl rfl rfl ⟨rfl, rfl, rfl, rfl, rfl⟩ rfl rfl rfl rfl rfl (by kernel_rfl) Tryd.func5 (by kernel_rfl)
    (of_decide_eq_true (by kernel_rfl)) (by unfold Func.isWrapper; first | (rw [if_pos (by decide +kernel)]; kernel_rfl) | (rw [if_neg (by decide +kernel)]; exact ⟨rfl, rfl⟩))
    (fun os started H enc _ => lifted os started H enc)

/-- The statement. -/
theorem proved : Rows.FnFieldsAgainCardSaid :=
  Claim7.holds_tied_plain_at .later [] [.data, .data, .data] true (true, "e4034d3ed36401187d202ddd2bf33678d1d91e93af4274dbb262d6920d054c87") true
    over (fun _ h => by cases h) (by kernel_rfl) (fun _ h => by cases h) fnFieldsAgain_row_tie rfl ⟨rfl, rfl⟩ (by kernel_rfl) rfl
    (fun f fn hf hfn => by
      obtain rfl : f = 5 := Option.some.inj ((show Tryd.prog.funcNamed "loop.example/g03319/laws.FnFieldsAgain" = some 5 by kernel_rfl).symm.trans hf) |>.symm
      obtain rfl : fn = Tryd.f5 := (Option.some.inj (Tryd.func5.symm.trans hfn)).symm
      exact ⟨by kernel_rfl, fun j t ht => by
        rw [Tryd.params5] at ht
        have hm : t ∈ [22] := by simpa using Array.mem_of_getElem? ht
        have hall : ([22].all fun u => !Tryd.prog.wantsStandIn u) = true := by kernel_rfl
        exact (show Tryd.prog.wantsStandIn t = false by simpa using List.all_eq_true.1 hall t hm)⟩)
    (by kernel_rfl)
#print axioms proved
end Go.Proofs.YtopkdkehkdhmgabDoor.fnFieldsAgain
