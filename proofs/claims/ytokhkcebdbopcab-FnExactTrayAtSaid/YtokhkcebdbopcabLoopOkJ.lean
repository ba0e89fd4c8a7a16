/- What the program's LoopOk returns: the whole. -/
import Derived.Test.YtokhkcebdbopcabLoopOkI
namespace Go.Proofs.Ytokhkcebdbopcab
open Go.RowKit
set_option linter.unusedVariables false

set_option maxRecDepth 100000 in
set_option maxHeartbeats 8000000 in
theorem iLoopOk_any (T : Int) (p1 p2 p3 : Option Addr) (c1 c2 c3 n1 n2 n3 : Nat) (x a2 a3 : Nat → Int) (m2 m3 : Nat → Nat) (y2 y3 : Nat → Nat → Int) (ht : n1 + totN m2 n2 ≤ 1048576) (h2 : n2 ≤ 1048576) (h3 : n3 ≤ 1048576) (hm3 : ∀ i, i < n3 → m3 i ≤ 1048576)
    (wx : ∀ j, j < n1 → (Lit.int .i64 (x j)).wf = true) (w2 : ∀ i, i < n2 → (Lit.int .i64 (a2 (i * 3))).wf = true) (wy : ∀ i, i < n2 → ∀ j, j < m2 i → (Lit.int .i64 (y2 i j)).wf = true) (w3 : ∀ i, i < n3 → (Lit.int .i64 (a3 (i * 2))).wf = true) (w : World)
    (r : LpRs w p1 p2 p3 c1 c2 c3 n1 n2 n3 x a2 a3 m2 m3 y2 y3) :
    Calls Try.prog 18 #[.agg #[.slice p1 n1 c1, .int .i64 T, .slice p2 n2 c2, .slice p3 n3 c3]] w fun e w' => e = .returned (.bool (decide (lpO T n1 n2 n3 x a2 a3 m2 m3 y2 y3))) ∧ Below w.heap.size w w' := by
  have hbo := Lib.hid (fun W (hW : Below w.heap.size w W) => iBagsOf_any T p1 p2 p3 c1 c2 c3 n1 n2 n3 (by omega) h2 x a2 a3 m2 m3 y2 y3 ht W (r.later hW))
  have hch := Lib.hid (fun W (hW : Below w.heap.size w W) (hn1 : (n1 : Int) ≤ 60) => show Calls Try.prog 60 #[.slice p2 n2 c2, .int .i64 (n1 : Int)] W fun e w' => e = .returned (.bool (decide (chP a2 m2 n2 (n1 : Int)))) ∧ Below W.heap.size W w' from by
    obtain ⟨p0, c0, g, o, s, he, hc, hf, hr⟩ := r.2.2.1
    injection he with e1 e2 e3
    subst e1 e3
    exact iChutes_any n2 (by omega) a2 s m2 (fun i hi => by obtain ⟨-, a, c, e⟩ := hr i hi; exact ⟨_, _, e⟩) p2 c2 g o (n1 : Int) (by omega) W ((hf.below hW (Nat.le_refl _)).wide (Nat.le_refl _) hW.size) w2)
  have hwt := Lib.hid (fun W (hW : Below w.heap.size w W) => show Calls Try.prog 61 #[.slice p3 n3 c3, .int .i64 (n2 : Int)] W fun e w' => e = .returned (.bool (decide (wtP a3 m3 y3 n3 (n2 : Int)))) ∧ Below W.heap.size W w' from by
    obtain ⟨p0, c0, g, o, s, he, hc, hf, hr⟩ := r.2.2.2
    injection he with e1 e2 e3
    subst e1 e3
    exact iWants_any n3 (by omega) a3 s m3 y3 (fun i hi => by have := hm3 i hi; unfold maxLen; omega) p3 c3 g o (n2 : Int) (by omega) W (fun i hi => ((hr i hi).1.later hW)) ((hf.below hW (Nat.le_refl _)).wide (Nat.le_refl _) hW.size) w3)
  have hlw := lpB_wf (x := x) (n1 := n1) (m2 := m2) (y2 := y2) wx n2 wy
  have hll := lpB_len (x := x) (n1 := n1) (m2 := m2) (y2 := y2) n2
  obtain ⟨R, hR⟩ : ∃ R, R = decide (lpO T n1 n2 n3 x a2 a3 m2 m3 y2 y3) := ⟨_, rfl⟩
  rw [← hR]
  have hRf : ¬ lpO T n1 n2 n3 x a2 a3 m2 m3 y2 y3 → R = false := fun h => by rw [hR]; exact decide_eq_false h
  by_cases b1 : (2 : Int) ≤ (n1 : Int) ∧ (n1 : Int) ≤ 60
  rotate_left
  · have HI := Lib.hid (inB_no.2 b1)
    obtain rfl : R = false := hRf (fun h => b1 (by have := h.1; omega))
    clear hR hRf b1 r hbo hch hwt hlw hll
    go_enter Try.func18, Try.ntmps18
    go_wp2_with (go_at_call 57; refine (within_at HI.out _).mono ?_; rintro e w4 ⟨rfl, rfl⟩)
    go_ret
    exact ⟨rfl, (Below.refl _ _).alloc (Nat.le_refl _) _⟩
  have HI := Lib.hid (inB_iff.2 b1)
  have hwn : IntKind.i64.wrap ((n1 : Int) - 1) = (n1 : Int) - 1 := IntWalk.i64_in _ (by omega)
  by_cases b2 : 0 ≤ T ∧ T ≤ (n1 : Int) - 1
  rotate_left
  · have HJ := Lib.hid (inB_no.2 b2)
    obtain rfl : R = false := hRf (fun h => b2 h.2.1)
    clear hR hRf b1 b2 r hbo hch hwt hlw hll
    go_enter Try.func18, Try.ntmps18
    go_wp2_with (go_at_call 57; (first | (with_reducible refine (within_at HI.out _).mono ?_) | (with_reducible refine (within_at HJ.out _).mono ?_)); rintro e w4 ⟨rfl, rfl⟩)
    go_ret
    exact ⟨rfl, (Below.refl _ _).alloc (Nat.le_refl _) _⟩
  have HJ := Lib.hid (inB_iff.2 b2)
  have HCH := Lib.hid (fun W hW => hch.out W hW b1.2)
  obtain ⟨l, hl⟩ : ∃ l, l = lpB x n1 m2 y2 n2 := ⟨_, rfl⟩
  rw [← hl] at hbo hlw hll
  have HBK := Lib.hid (fun (W : World) (B : Nat) (pv : Option Addr) (cv : Nat) (ho : W.ownsRow B 3 1 (.slice pv l.length cv) l.length (l.map (.int .i64))) => show Calls Try.prog 58 #[.slice pv l.length cv] W fun e w' => e = .returned (.bool (decide (bgP l))) ∧ Below W.heap.size W w' from by
    obtain ⟨g, hf⟩ := flatI_of_list ho
    have := iBags_any l.length (by omega) (fun j => l.getD j 0) pv cv g 0 W (hf.wide (Nat.zero_le _) (Nat.le_refl _)) (fun j hj => by
      show (Lit.int .i64 (l.getD j 0)).wf = true
      rw [List.getD_eq_getElem?_getD, List.getElem?_eq_getElem hj]
      exact hlw _ (List.getElem_mem hj))
    rwa [decide_eq_decide.2 (bgOk_listP l)] at this)
  have hRl : R = decide (bgP l ∧ chP a2 m2 n2 (n1 : Int) ∧ wtP a3 m3 y3 n3 (n2 : Int)) := by
    rw [hR]
    refine decide_eq_decide.2 ?_
    rw [hl]
    exact ⟨fun h => h.2.2, fun h => ⟨⟨by omega, by omega⟩, b2, h⟩⟩
  have HRL := Lib.hid hRl
  have hX := fun (W : World) (hW : Below (w.heap.size + 1) (w.alloc (.cells #[.slice p1 n1 c1, .int .i64 T, .slice p2 n2 c2, .slice p3 n3 c3] 32)) W) => (show Hid (Below w.heap.size w W ∧ W.heap[w.heap.size]? = some (.cells #[.slice p1 n1 c1, .int .i64 T, .slice p2 n2 c2, .slice p3 n3 c3] 32 (0, 0))) from
    ⟨((Below.refl _ _).alloc (Nat.le_refl _) _).trans (hW.mono (by omega)), (hW.block w.heap.size (by omega)).trans (heap_new _ _ _ rfl)⟩)
  have HX := Lib.hid hX
  clear hR hRf b1 b2 r hch hlw hll hl hRl hX ht h2 h3 hm3 wx w2 wy w3
  by_cases q1 : bgP l
  rotate_left
  · obtain rfl : R = false := by rw [HRL.out]; exact decide_eq_false (fun h => q1 h.1)
    rw [decide_eq_false q1] at HBK
    clear HRL q1
    go_enter Try.func18, Try.ntmps18
    go_wp2_with (first
      | (go_at_call 57; (first | (with_reducible refine (within_at HI.out _).mono ?_) | (with_reducible refine (within_at HJ.out _).mono ?_)); rintro e w4 ⟨rfl, rfl⟩)
      | (go_at_call 59; refine (hbo.out _ ((Below.refl _ _).alloc (Nat.le_refl _) _)).mono ?_; rintro e w5 ⟨pv, cv, rfl, ho5, hb5⟩; have HO5 := Lib.hid ho5; have HB5 := Lib.hid hb5; clear ho5 hb5)
      | (go_at_call 58; refine (HBK.out _ _ _ _ HO5.out).mono ?_; rintro e w6 ⟨rfl, hb6⟩; have H6 := (HX.out w6 ((HB5.out.mono (by simp)).trans (hb6.mono (by have := HB5.out.size; simp at this; omega)))).out; clear hb6))
    go_ret
    exact ⟨rfl, H6.1⟩
  rw [decide_eq_true q1] at HBK
  by_cases q2 : chP a2 m2 n2 (n1 : Int)
  rotate_left
  · obtain rfl : R = false := by rw [HRL.out]; exact decide_eq_false (fun h => q2 h.2.1)
    rw [decide_eq_false q2] at HCH
    clear HRL q1 q2
    go_enter Try.func18, Try.ntmps18
    go_wp2_with (first
      | (go_at_call 57; (first | (with_reducible refine (within_at HI.out _).mono ?_) | (with_reducible refine (within_at HJ.out _).mono ?_)); rintro e w4 ⟨rfl, rfl⟩)
      | (go_at_call 59; refine (hbo.out _ ((Below.refl _ _).alloc (Nat.le_refl _) _)).mono ?_; rintro e w5 ⟨pv, cv, rfl, ho5, hb5⟩; have HO5 := Lib.hid ho5; have HB5 := Lib.hid hb5; clear ho5 hb5)
      | (go_at_call 58; refine (HBK.out _ _ _ _ HO5.out).mono ?_; rintro e w6 ⟨rfl, hb6⟩; have H6 := (HX.out w6 ((HB5.out.mono (by simp)).trans (hb6.mono (by have := HB5.out.size; simp at this; omega)))).out; clear hb6; obtain ⟨x0, x1, x2, x3, -, -, -, -⟩ := cells4 H6.2)
      | (go_at_call 60; refine (HCH.out _ H6.1).mono ?_; rintro e w7 ⟨rfl, hb7⟩; have HB7 := Lib.hid (H6.1.trans (hb7.mono H6.1.size)); clear hb7))
    go_ret
    exact ⟨rfl, HB7.out⟩
  rw [decide_eq_true q2] at HCH
  obtain rfl : R = decide (wtP a3 m3 y3 n3 (n2 : Int)) := by rw [HRL.out]; exact decide_eq_decide.2 ⟨fun h => h.2.2, fun h => ⟨q1, q2, h⟩⟩
  obtain ⟨R2, hR2⟩ : ∃ R2, R2 = decide (wtP a3 m3 y3 n3 (n2 : Int)) := ⟨_, rfl⟩
  rw [← hR2] at hwt ⊢
  clear HRL q1 q2 hR2
  go_enter Try.func18, Try.ntmps18
  go_wp2_with (first
    | (go_at_call 57; (first | (with_reducible refine (within_at HI.out _).mono ?_) | (with_reducible refine (within_at HJ.out _).mono ?_)); rintro e w4 ⟨rfl, rfl⟩)
    | (go_at_call 59; refine (hbo.out _ ((Below.refl _ _).alloc (Nat.le_refl _) _)).mono ?_; rintro e w5 ⟨pv, cv, rfl, ho5, hb5⟩; have HO5 := Lib.hid ho5; have HB5 := Lib.hid hb5; clear ho5 hb5)
    | (go_at_call 58; refine (HBK.out _ _ _ _ HO5.out).mono ?_; rintro e w6 ⟨rfl, hb6⟩; have H6 := (HX.out w6 ((HB5.out.mono (by simp)).trans (hb6.mono (by have := HB5.out.size; simp at this; omega)))).out; have hs6 := hb6.size; have hs5 := HB5.out.size; clear hb6; obtain ⟨x0, x1, x2, x3, -, -, -, -⟩ := cells4 H6.2)
    | (go_at_call 60; refine (HCH.out _ H6.1).mono ?_; rintro e w7 ⟨rfl, hb7⟩; have HB7 := Lib.hid (H6.1.trans (hb7.mono H6.1.size)); have X7 := (hb7.block w.heap.size (by simp at hs5; omega)).trans H6.2; clear hb7; obtain ⟨z0, z1, z2, z3, -, -, -, -⟩ := cells4 X7; clear X7)
    | (go_at_call 61; refine (hwt.out _ HB7.out).mono ?_; rintro e w8 ⟨rfl, hb8⟩; have HB8 := Lib.hid (HB7.out.trans (hb8.mono HB7.out.size)); clear hb8))
  go_ret
  exact ⟨rfl, HB8.out⟩

end Go.Proofs.Ytokhkcebdbopcab
