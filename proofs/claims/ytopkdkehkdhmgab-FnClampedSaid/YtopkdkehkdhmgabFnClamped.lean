/- For every code FnClamped returns true, and the code reads as before. No condition. -/
import Derived.Test.YtopkdkehkdhmgabRows
import Derived.Test.YtopkdkehkdhmgabClampG
import Derived.OpenShut
import Derived.ChangeOld
import Derived.Lib.SmallJoins
namespace Go.Proofs.Ytopkdkehkdhmgab.fnClamped
open Go.ChangeShapes Go.WideShapes Go.ChangeAt Go.RowKit
set_option linter.unusedVariables false

set_option maxRecDepth 100000 in
set_option maxHeartbeats 2000000 in
theorem walk (p : Option Addr) (n cap gc oc : Nat) (w : World) (hn : n ≤ maxLen) (hC : Code w.heap.size n w p gc oc) :
    Calls Try.prog 10 #[.slice p n cap] w fun e w' => e = .returned (.bool true) ∧ Below w.heap.size w w' := by
  have hbg := Lib.hid (big_any p n cap hn w)
  by_cases hbig : 1048576 < n
  · have hd : decide (1048576 < n) = true := decide_eq_true hbig
    simp only [hd] at hbg
    clear hC hbig hd hn
    go_enter Try.func10, Try.ntmps10
    go_wp2_with (go_at_call 31; refine hbg.out.mono ?_; rintro e w' ⟨rfl, rfl⟩)
    go_ret
    exact ⟨rfl, Below.refl _ _⟩
  · have hd : decide (1048576 < n) = false := decide_eq_false hbig
    simp only [hd] at hbg
    have HD := Lib.hid (drawClamp_any (cap := cap) (show n ≤ 1048576 by omega) (Nat.le_refl _) hC)
    have h735 : clG 7 3 5 = 5 := rfl
    have HK := Lib.hid (fun W => clG_any 7 3 5 W)
    rw [h735] at HK
    clear hC hbig hd hn h735
    go_enter Try.func10, Try.ntmps10
    go_wp2_with (go_at_call 31; refine hbg.out.mono ?_; rintro e w' ⟨rfl, rfl⟩)
    refine HD.out.mono ?_
    rintro e w1 ⟨x, a, b, rfl, hb1⟩
    have HB1 := Lib.hid hb1
    clear hb1 HD hbg
    obtain ⟨r, hr⟩ : ∃ r, r = clG x a b := ⟨_, rfl⟩
    have H1 := Lib.hid (fun W => clG_any x a b W)
    have H2 := Lib.hid (fun W => clG_any r a b W)
    rw [← hr] at H1
    have tok1 : True := trivial
    by_cases c : b < a
    · have hra : r = a := by rw [hr]; unfold clG; rw [if_pos c]
      have cd : decide (b < a) = true := decide_eq_true c
      have hrb : (r == a) = true := by rw [hra]; simp
      clear hr hra
      go_wp2_with (first
        | (go_at_call 49; have _t := tok1; (with_reducible refine (H1.out _).mono ?_); rintro e w' ⟨rfl, rfl⟩; clear tok1)
        | (go_at_call 49; (with_reducible refine (HK.out _).mono ?_); rintro e w' ⟨rfl, rfl⟩))
      go_ret
      exact ⟨rfl, HB1.out⟩
    · have cd : decide (b < a) = false := decide_eq_false c
      have h2 : clG r a b = r := by rw [hr]; unfold clG; split <;> (try split) <;> (try split) <;> omega
      have hlo : a ≤ r := by rw [hr]; unfold clG; split <;> (try split) <;> (try split) <;> omega
      have hhi : r ≤ b := by rw [hr]; unfold clG; split <;> (try split) <;> (try split) <;> omega
      have hin : a ≤ x → x ≤ b → r = x := by intro h3 h4; rw [hr]; unfold clG; split <;> (try split) <;> (try split) <;> omega
      rw [h2] at H2
      have HIN := Lib.hid hin
      have dlo : decide (a ≤ r) = true := decide_eq_true hlo
      have dhi : decide (r ≤ b) = true := decide_eq_true hhi
      clear hr h2 hin
      by_cases d1 : x < a
      · have e1 : decide (x < a) = true := decide_eq_true d1
        go_wp2_with (first
          | (go_at_call 49; have _t := tok1; (with_reducible refine (H1.out _).mono ?_); rintro e w' ⟨rfl, rfl⟩; clear tok1)
          | (go_at_call 49; (with_reducible refine (HK.out _).mono ?_); rintro e w' ⟨rfl, rfl⟩)
          | (go_at_call 49; (with_reducible refine (H2.out _).mono ?_); rintro e w' ⟨rfl, rfl⟩))
        go_ret
        exact ⟨rfl, HB1.out⟩
      · have e1 : decide (x < a) = false := decide_eq_false d1
        by_cases d2 : b < x
        · have e2 : decide (b < x) = true := decide_eq_true d2
          go_wp2_with (first
            | (go_at_call 49; have _t := tok1; (with_reducible refine (H1.out _).mono ?_); rintro e w' ⟨rfl, rfl⟩; clear tok1)
            | (go_at_call 49; (with_reducible refine (HK.out _).mono ?_); rintro e w' ⟨rfl, rfl⟩)
            | (go_at_call 49; (with_reducible refine (H2.out _).mono ?_); rintro e w' ⟨rfl, rfl⟩))
          go_ret
          exact ⟨rfl, HB1.out⟩
        · have e2 : decide (b < x) = false := decide_eq_false d2
          have e3 : (r == x) = true := by rw [HIN.out (by omega) (by omega)]; simp
          go_wp2_with (first
            | (go_at_call 49; have _t := tok1; (with_reducible refine (H1.out _).mono ?_); rintro e w' ⟨rfl, rfl⟩; clear tok1)
            | (go_at_call 49; (with_reducible refine (HK.out _).mono ?_); rintro e w' ⟨rfl, rfl⟩)
            | (go_at_call 49; (with_reducible refine (H2.out _).mono ?_); rintro e w' ⟨rfl, rfl⟩))
          go_ret
          exact ⟨rfl, HB1.out⟩

/-! The row's step. -/
theorem own : ownKnob Try.prog.godebug = none := by kernel_rfl
theorem laidOut : laidOutB Try.prog = true := by kernel_rfl
set_option maxRecDepth 100000 in
theorem lifted (os : Os) (started : os.Started) (H : Type) (enc : TypeId × Value → H) :
    ReturnsInHanded {} Try.checked os 10 .any (Rows.fnClampedSpec.pre6 enc Try.prog Try.f10 Rows.fnClampedRow.domain false) (Rows.fnClampedSpec.post enc Try.prog Try.f10 false true false false) := by
  refine returnsInHanded_of_change (C := Try.checked) own started (by kernel_rfl) Try.func10
    (ChangeSpec.witness6 (enc := enc) (C := Try.checked) false ⟨#[], #[.slice none 0 0], []⟩ 8 (by kernel_rfl) (by kernel_rfl) (by kernel_rfl) (by kernel_rfl)) ?_
  intro W base args ds gs before hval0 hW hcnd _
  have hval : ∀ (j : Nat) t v, Try.f10.params[j]? = some t → args[j]? = some v → Value.okWide Try.prog W .any base t v := hval0
  have hW' := hW
  obtain ⟨p, q, hA0, hV, rfl, hfz, hnd⟩ := hW
  have hA : DataW.TrodAll enc Try.prog W 0 (fun _ => true) true Try.f10.params.toList args.toList ds p := hA0
  rw [Try.params10] at hA hval
  obtain ⟨v0, vs0, d0, ds0, p0, q0, hargs, rfl, rfl, h0, r0⟩ := trodAll_cons hA
  obtain ⟨rfl, rfl, rfl⟩ := trodAll_nil r0
  obtain rfl : args = #[v0] := by cases args; simp_all
  obtain ⟨rfl, rfl⟩ := trodVars_none hV
  have k0 := h0
  have lt0 : ∀ x ∈ p0, x.block < W.heap.size := by obtain ⟨m, hm⟩ := k0; exact DataW.trod_lt m _ _ _ hm
  obtain ⟨sp0, ln0, cp0, rfl⟩ := okWide_slice Try.underlying52 (hval 0 52 v0 rfl rfl)
  obtain ⟨gc0, oc0, w0, cd0⟩ := code_open h0
  clear hA0 hval0
  refine (walk sp0 ln0 cp0 gc0 oc0 W w0 cd0).mono fun e W' ⟨he, bel⟩ => ?_
  subst he
  exact ⟨_, rfl, _, _, _, [], _, [], hW', trodAll_mk1 (shut_bool Try.underlying4 _), (trodAll_cons_mk (Below.trod laidOut (by kernel_rfl) (of_decide_eq_true (by kernel_rfl)) k0 bel lt0) trodAll_mk0), rfl, bel.frame _, fun h => by cases h⟩

theorem over : Rows.fnClampedRow.holds Try.pinned (OpenSpec.ofChange Rows.fnClampedSpec) :=
  OpenClaim.holds_of_wide 10 Try.f10 rfl rfl rfl rfl rfl rfl rfl ⟨rfl, rfl, rfl, rfl, rfl⟩ rfl rfl rfl rfl rfl (by kernel_rfl) Try.func10 (by kernel_rfl)
    (of_decide_eq_true (by kernel_rfl)) (by unfold Func.isWrapper; first | (rw [if_pos (by decide +kernel)]; kernel_rfl) | (rw [if_neg (by decide +kernel)]; exact ⟨rfl, rfl⟩))
    (fun os started H enc _ => lifted os started H enc)

/-- The statement. -/
theorem proved : Rows.FnClampedSaid := over
#print axioms proved
end Go.Proofs.Ytopkdkehkdhmgab.fnClamped
