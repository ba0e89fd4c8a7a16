/- For every code FnBeltEnters returns true, and the code reads as before. No condition. -/
import Derived.Test.YtobcgidakbbhpabRows
import Derived.Test.YtobcgidakbbhpabDrawEnter
import Derived.Test.YtobcgidakbbhpabBeltIn
import Derived.Test.YtobcgidakbbhpabBig
import Derived.WalkArith
import Derived.Test.YtobcgidakbbhpabLater
import Derived.OpenShut
import Derived.ChangeOld
import Derived.Lib.SmallJoins
namespace Go.Proofs.Ytobcgidakbbhpab.fnBeltEnters
open Go.ChangeShapes Go.WideShapes Go.ChangeAt Go.RowKit
set_option linter.unusedVariables false

theorem bne_bool (b : Bool) : (b != b) = false := by cases b <;> rfl
theorem bx_later {w w' : World} {k : Nat} {o : Obj} (h : w.heap[k]? = some o) (hb : Below w.heap.size w w') : w'.heap[k]? = some o := (hb.block k (Array.getElem?_eq_some_iff.1 h).1).trans h

set_option maxRecDepth 100000 in
set_option maxHeartbeats 8000000 in
theorem walk (p : Option Addr) (n cap gc oc : Nat) (w : World) (hn : n ≤ maxLen) (hC : Code w.heap.size n w p gc oc) :
    Calls Try.prog 7 #[.slice p n cap] w fun e w' => e = .returned (.bool true) ∧ Below w.heap.size w w' := by
  have hbg := Lib.hid (big_any p n cap hn w)
  by_cases hbig : 1048576 < n
  · have hd : decide (1048576 < n) = true := decide_eq_true hbig
    simp only [hd] at hbg
    clear hC hbig hd hn
    go_enter Try.func7, Try.ntmps7
    go_wp2_with (go_at_call 33; refine hbg.out.mono ?_; rintro e w' ⟨rfl, rfl⟩)
    go_ret
    exact ⟨rfl, Below.refl _ _⟩
  have hd : decide (1048576 < n) = false := decide_eq_false hbig
  simp only [hd] at hbg
  have hn' : n ≤ 1048576 := by omega
  have HC := Lib.hid hC
  clear hC hbig hd hn
  go_enter Try.func7, Try.ntmps7
  go_wp2_with (go_at_call 33; refine hbg.out.mono ?_; rintro e w' ⟨rfl, rfl⟩)
  refine (DrawEnter_any hn' (Below.refl _ _) HC.out).mono ?_
  rintro e w1 ⟨L, G, H, q, po, co, z, g1, x, y, rfl, hq, hqc, hF, hb1⟩
  have B1 := Lib.hid hb1
  have hF1 : BeltIn w1 po q co z := ⟨hqc, g1, 0, hF.wide (Nat.zero_le _) (Nat.le_refl _)⟩
  have Fb1 := Lib.hid hF1
  clear hF hqc hF1 hb1 hbg HC
  go_upto_region 4 with fail
  obtain ⟨w2, hw2⟩ : ∃ xx, xx = w1.alloc (.cells #[.int .i64 L, .int .i64 G, .bool H, .slice po q co] 28) := ⟨_, rfl⟩
  have hb : Below w1.heap.size w1 w2 := by rw [hw2]; exact (Below.refl _ _).alloc (Nat.le_refl _) _
  have Xb2 : Hid (w2.heap[w1.heap.size]? = some (.cells #[.int .i64 L, .int .i64 G, .bool H, .slice po q co] 28 (0, 0))) := by rw [hw2]; exact heap_new _ _ _ rfl
  rw [← hw2]
  clear hw2
  have B2 := Lib.hid (B1.out.trans (hb.mono B1.out.size))
  have Fb2 := Lib.hid (Fb1.out.later hb)
  clear B1 Fb1 
  clear hb
  have hEn0 : enB L G q z x y = false → enN L G q z x y = q ∧ enZ L G q z x y = z := fun h => (en_no (fun hh => by rw [(en_yes hh).1] at h; cases h)).2
  have hEn1 : enB L G q z x y = true → okB L G (enN L G q z x y) (enZ L G q z x y) = true ∧ (1 ≤ y ∧ y ≤ 60) ∧ cvB L G (enN L G q z x y) (enZ L G q z x y) 1 = x ∧ cvB L G (enN L G q z x y) (enZ L G q z x y) y = x ∧ cvB L G (enN L G q z x y) (enZ L G q z x y) (y + 1) = cvB L G q z (y + 1) ∧ cvB L G (enN L G q z x y) (enZ L G q z x y) 0 = 0 := fun h => by
    have hh : enOk L G q z x y := by simpa [enB] using h
    obtain ⟨-, e1, e2⟩ := en_yes hh
    rw [e1, e2]
    exact enter_facts hh
  have hN51 : enN L G q z x y ≤ 51 := by unfold enN; split <;> omega
  have hM51 : lvN L G H q z ≤ 51 := by unfold lvN; split <;> omega
  have hcall := iEnter_b L G H (by omega) Fb2.out x y
  obtain ⟨N, hN⟩ : ∃ N, N = enN L G q z x y := ⟨_, rfl⟩
  obtain ⟨Z, hZ⟩ : ∃ Z, Z = enZ L G q z x y := ⟨_, rfl⟩
  obtain ⟨eb, heb⟩ : ∃ eb, eb = enB L G q z x y := ⟨_, rfl⟩
  rw [← hN, ← hZ, ← heb] at hEn0 hEn1
  rw [← hN] at hN51
  obtain ⟨M, hM⟩ : ∃ M, M = lvN L G H q z := ⟨_, rfl⟩
  obtain ⟨Y, hY⟩ : ∃ Y, Y = lvZ L G H q z := ⟨_, rfl⟩
  obtain ⟨lb, hlb⟩ : ∃ lb, lb = lvOk L G H q z := ⟨_, rfl⟩
  obtain ⟨u, hu⟩ : ∃ u, u = lvB L G H q z := ⟨_, rfl⟩
  rw [← hM] at hM51
  have EQ := Lib.hid (And.intro hN (And.intro hZ (And.intro heb (And.intro hM (And.intro hY (And.intro hlb hu))))))
  have EN0 := Lib.hid hEn0
  have EN1 := Lib.hid hEn1
  clear hN hZ heb hM hY hlb hu hEn0 hEn1
  rw [← EQ.out.1, ← EQ.out.2.1, ← EQ.out.2.2.1] at hcall
  have HCALL := Lib.hid hcall
  clear hcall
  obtain ⟨b0, b1, b2, b3, -, -, -, -⟩ := cells4 Xb2.out
  go_wp2_with fail
  clear b0 b1 b2 b3
  refine HCALL.out.mono ?_
  clear HCALL
  rintro e w3 ⟨px, cx, rfl, hf, hb⟩
  have B3 := Lib.hid (B2.out.trans (hb.mono B2.out.size))
  have Fb3 := Lib.hid (Fb2.out.later hb)
  have Xb3 := Lib.hid (bx_later Xb2.out hb)
  clear B2 Fb2 Xb2
  have Fx3 := Lib.hid hf
  clear hf hb
  obtain ⟨b0, b1, b2, b3, -, -, -, -⟩ := cells4 Xb3.out
  go_upto_region 5 with fail
  clear b0 b1 b2 b3
  obtain ⟨w4, hw4⟩ : ∃ xx, xx = w3.alloc (.cells #[.int .i64 L, .int .i64 G, .bool H, .slice px N cx] 28) := ⟨_, rfl⟩
  have hb : Below w3.heap.size w3 w4 := by rw [hw4]; exact (Below.refl _ _).alloc (Nat.le_refl _) _
  have Xx4 : Hid (w4.heap[w3.heap.size]? = some (.cells #[.int .i64 L, .int .i64 G, .bool H, .slice px N cx] 28 (0, 0))) := by rw [hw4]; exact heap_new _ _ _ rfl
  rw [← hw4]
  clear hw4
  have B4 := Lib.hid (B3.out.trans (hb.mono B3.out.size))
  have Fb4 := Lib.hid (Fb3.out.later hb)
  have Fx4 := Lib.hid (Fx3.out.later hb)
  have Xb4 := Lib.hid (bx_later Xb3.out hb)
  clear B3 Fb3 Fx3 Xb3
  clear hb
  have hcall := sEnter_b L G H (by omega) Fb4.out x y
  rw [← EQ.out.1, ← EQ.out.2.1, ← EQ.out.2.2.1] at hcall
  have HCALL := Lib.hid hcall
  clear hcall
  obtain ⟨b0, b1, b2, b3, -, -, -, -⟩ := cells4 Xb4.out
  obtain ⟨x0, x1, x2, x3, -, -, -, -⟩ := cells4 Xx4.out
  go_wp2_with fail
  clear b0 b1 b2 b3 x0 x1 x2 x3
  refine HCALL.out.mono ?_
  clear HCALL
  rintro e w5 ⟨py, cy, rfl, hf, hb⟩
  have B5 := Lib.hid (B4.out.trans (hb.mono B4.out.size))
  have Fb5 := Lib.hid (Fb4.out.later hb)
  have Fx5 := Lib.hid (Fx4.out.later hb)
  have Xb5 := Lib.hid (bx_later Xb4.out hb)
  have Xx5 := Lib.hid (bx_later Xx4.out hb)
  clear B4 Fb4 Fx4 Xb4 Xx4
  have Fy5 := Lib.hid hf
  clear hf hb
  obtain ⟨b0, b1, b2, b3, -, -, -, -⟩ := cells4 Xb5.out
  obtain ⟨x0, x1, x2, x3, -, -, -, -⟩ := cells4 Xx5.out
  go_upto_region 6 with fail
  clear b0 b1 b2 b3 x0 x1 x2 x3
  obtain ⟨w6, hw6⟩ : ∃ xx, xx = w5.alloc (.cells #[.int .i64 L, .int .i64 G, .bool H, .slice py N cy] 28) := ⟨_, rfl⟩
  have hb : Below w5.heap.size w5 w6 := by rw [hw6]; exact (Below.refl _ _).alloc (Nat.le_refl _) _
  have Xy6 : Hid (w6.heap[w5.heap.size]? = some (.cells #[.int .i64 L, .int .i64 G, .bool H, .slice py N cy] 28 (0, 0))) := by rw [hw6]; exact heap_new _ _ _ rfl
  rw [← hw6]
  clear hw6
  have B6 := Lib.hid (B5.out.trans (hb.mono B5.out.size))
  have Fb6 := Lib.hid (Fb5.out.later hb)
  have Fx6 := Lib.hid (Fx5.out.later hb)
  have Fy6 := Lib.hid (Fy5.out.later hb)
  have Xb6 := Lib.hid (bx_later Xb5.out hb)
  have Xx6 := Lib.hid (bx_later Xx5.out hb)
  clear B5 Fb5 Fx5 Fy5 Xb5 Xx5
  clear hb
  have hcall := iLeave_b L G H (by omega) Fb6.out
  rw [← EQ.out.2.2.2.1, ← EQ.out.2.2.2.2.1, ← EQ.out.2.2.2.2.2.1, ← EQ.out.2.2.2.2.2.2] at hcall
  have HCALL := Lib.hid hcall
  clear hcall
  obtain ⟨b0, b1, b2, b3, -, -, -, -⟩ := cells4 Xb6.out
  obtain ⟨x0, x1, x2, x3, -, -, -, -⟩ := cells4 Xx6.out
  obtain ⟨y0, y1, y2, y3, -, -, -, -⟩ := cells4 Xy6.out
  go_wp2_with fail
  clear b0 b1 b2 b3 x0 x1 x2 x3 y0 y1 y2 y3
  refine HCALL.out.mono ?_
  clear HCALL
  rintro e w7 ⟨pz, cz, rfl, hf, hb⟩
  have B7 := Lib.hid (B6.out.trans (hb.mono B6.out.size))
  have Fb7 := Lib.hid (Fb6.out.later hb)
  have Fx7 := Lib.hid (Fx6.out.later hb)
  have Fy7 := Lib.hid (Fy6.out.later hb)
  have Xb7 := Lib.hid (bx_later Xb6.out hb)
  have Xx7 := Lib.hid (bx_later Xx6.out hb)
  have Xy7 := Lib.hid (bx_later Xy6.out hb)
  clear B6 Fb6 Fx6 Fy6 Xb6 Xx6 Xy6
  have Fz7 := Lib.hid hf
  clear hf hb
  obtain ⟨b0, b1, b2, b3, -, -, -, -⟩ := cells4 Xb7.out
  obtain ⟨x0, x1, x2, x3, -, -, -, -⟩ := cells4 Xx7.out
  obtain ⟨y0, y1, y2, y3, -, -, -, -⟩ := cells4 Xy7.out
  go_upto_region 7 with fail
  clear b0 b1 b2 b3 x0 x1 x2 x3 y0 y1 y2 y3
  obtain ⟨w8, hw8⟩ : ∃ xx, xx = w7.alloc (.cells #[.int .i64 L, .int .i64 G, .bool H, .slice pz M cz] 28) := ⟨_, rfl⟩
  have hb : Below w7.heap.size w7 w8 := by rw [hw8]; exact (Below.refl _ _).alloc (Nat.le_refl _) _
  have Xz8 : Hid (w8.heap[w7.heap.size]? = some (.cells #[.int .i64 L, .int .i64 G, .bool H, .slice pz M cz] 28 (0, 0))) := by rw [hw8]; exact heap_new _ _ _ rfl
  rw [← hw8]
  clear hw8
  have B8 := Lib.hid (B7.out.trans (hb.mono B7.out.size))
  have Fb8 := Lib.hid (Fb7.out.later hb)
  have Fx8 := Lib.hid (Fx7.out.later hb)
  have Fy8 := Lib.hid (Fy7.out.later hb)
  have Fz8 := Lib.hid (Fz7.out.later hb)
  have Xb8 := Lib.hid (bx_later Xb7.out hb)
  have Xx8 := Lib.hid (bx_later Xx7.out hb)
  have Xy8 := Lib.hid (bx_later Xy7.out hb)
  clear B7 Fb7 Fx7 Fy7 Fz7 Xb7 Xx7 Xy7
  clear hb
  have hcall := sLeave_b L G H (by omega) Fb8.out
  rw [← EQ.out.2.2.2.1, ← EQ.out.2.2.2.2.1, ← EQ.out.2.2.2.2.2.1, ← EQ.out.2.2.2.2.2.2] at hcall
  have HCALL := Lib.hid hcall
  clear hcall
  obtain ⟨b0, b1, b2, b3, -, -, -, -⟩ := cells4 Xb8.out
  obtain ⟨x0, x1, x2, x3, -, -, -, -⟩ := cells4 Xx8.out
  obtain ⟨y0, y1, y2, y3, -, -, -, -⟩ := cells4 Xy8.out
  obtain ⟨z0, z1, z2, z3, -, -, -, -⟩ := cells4 Xz8.out
  go_wp2_with fail
  clear b0 b1 b2 b3 x0 x1 x2 x3 y0 y1 y2 y3 z0 z1 z2 z3
  refine HCALL.out.mono ?_
  clear HCALL
  rintro e w9 ⟨pv, cv, rfl, hf, hb⟩
  have B9 := Lib.hid (B8.out.trans (hb.mono B8.out.size))
  have Fb9 := Lib.hid (Fb8.out.later hb)
  have Fx9 := Lib.hid (Fx8.out.later hb)
  have Fy9 := Lib.hid (Fy8.out.later hb)
  have Fz9 := Lib.hid (Fz8.out.later hb)
  have Xb9 := Lib.hid (bx_later Xb8.out hb)
  have Xx9 := Lib.hid (bx_later Xx8.out hb)
  have Xy9 := Lib.hid (bx_later Xy8.out hb)
  have Xz9 := Lib.hid (bx_later Xz8.out hb)
  clear B8 Fb8 Fx8 Fy8 Fz8 Xb8 Xx8 Xy8 Xz8
  have Fv9 := Lib.hid hf
  clear hf hb
  obtain ⟨b0, b1, b2, b3, -, -, -, -⟩ := cells4 Xb9.out
  obtain ⟨x0, x1, x2, x3, -, -, -, -⟩ := cells4 Xx9.out
  obtain ⟨y0, y1, y2, y3, -, -, -, -⟩ := cells4 Xy9.out
  obtain ⟨z0, z1, z2, z3, -, -, -, -⟩ := cells4 Xz9.out
  go_upto_region 8 with fail
  clear b0 b1 b2 b3 x0 x1 x2 x3 y0 y1 y2 y3 z0 z1 z2 z3
  obtain ⟨w10, hw10⟩ : ∃ xx, xx = w9.alloc (.cells #[.int .i64 L, .int .i64 G, .bool H, .slice pv M cv] 28) := ⟨_, rfl⟩
  have hb : Below w9.heap.size w9 w10 := by rw [hw10]; exact (Below.refl _ _).alloc (Nat.le_refl _) _
  have Xv10 : Hid (w10.heap[w9.heap.size]? = some (.cells #[.int .i64 L, .int .i64 G, .bool H, .slice pv M cv] 28 (0, 0))) := by rw [hw10]; exact heap_new _ _ _ rfl
  rw [← hw10]
  clear hw10
  have B10 := Lib.hid (B9.out.trans (hb.mono B9.out.size))
  have Fb10 := Lib.hid (Fb9.out.later hb)
  have Fx10 := Lib.hid (Fx9.out.later hb)
  have Fy10 := Lib.hid (Fy9.out.later hb)
  have Fz10 := Lib.hid (Fz9.out.later hb)
  have Fv10 := Lib.hid (Fv9.out.later hb)
  have Xb10 := Lib.hid (bx_later Xb9.out hb)
  have Xx10 := Lib.hid (bx_later Xx9.out hb)
  have Xy10 := Lib.hid (bx_later Xy9.out hb)
  have Xz10 := Lib.hid (bx_later Xz9.out hb)
  clear B9 Fb9 Fx9 Fy9 Fz9 Fv9 Xb9 Xx9 Xy9 Xz9
  clear hb
  have hcs1 := Lib.hid (fun q9 : Later w10 => Calls.later_of (sameBelt_b L G H (by omega) (Fx10.out.later q9.h) (Fy10.out.later q9.h)))
  have hcs2 := Lib.hid (fun q9 : Later w10 => Calls.later_of (sameBelt_b L G H (by omega) (Fz10.out.later q9.h) (Fv10.out.later q9.h)))
  have hcb1 := Lib.hid (fun q9 : Later w10 => Calls.later_of (iBacklog_b L G H (by omega) (Fb10.out.later q9.h)))
  have hcb2 := Lib.hid (fun q9 : Later w10 => Calls.later_of (sBacklog_b L G H (by omega) (Fb10.out.later q9.h)))
  have hcf1 := Lib.hid (fun q9 : Later w10 => Calls.later_of (iFree_b L G H (by omega) (Fb10.out.later q9.h)))
  have hcf2 := Lib.hid (fun q9 : Later w10 => Calls.later_of (sFree_b L G H (by omega) (Fb10.out.later q9.h)))
  obtain ⟨bk, hbk⟩ : ∃ bk, bk = blB L G q z := ⟨_, rfl⟩
  obtain ⟨fb, hfb⟩ : ∃ fb, fb = frB L G q z := ⟨_, rfl⟩
  rw [← hbk] at hcb1 hcb2
  rw [← hfb] at hcf1 hcf2
  clear hbk hfb
  have hne1 := bne_bool eb
  have hne2 := bne_bool lb
  have hne3 : (u != u) = false := by simp
  have hne4 : (bk != bk) = false := by simp
  have hne5 : (fb != fb) = false := by simp
  obtain ⟨b0, b1, b2, b3, -, -, -, -⟩ := cells4 Xb10.out
  obtain ⟨x0, x1, x2, x3, -, -, -, -⟩ := cells4 Xx10.out
  obtain ⟨y0, y1, y2, y3, -, -, -, -⟩ := cells4 Xy10.out
  obtain ⟨z0, z1, z2, z3, -, -, -, -⟩ := cells4 Xz10.out
  obtain ⟨v0, v1, v2, v3, -, -, -, -⟩ := cells4 Xv10.out
  have lb0 := Later.cell b0
  have lb1 := Later.cell b1
  have lb2 := Later.cell b2
  have lb3 := Later.cell b3
  have lx0 := Later.cell x0
  have lx1 := Later.cell x1
  have lx2 := Later.cell x2
  have lx3 := Later.cell x3
  have ly0 := Later.cell y0
  have ly1 := Later.cell y1
  have ly2 := Later.cell y2
  have ly3 := Later.cell y3
  have lz0 := Later.cell z0
  have lz1 := Later.cell z1
  have lz2 := Later.cell z2
  have lz3 := Later.cell z3
  have lv0 := Later.cell v0
  have lv1 := Later.cell v1
  have lv2 := Later.cell v2
  have lv3 := Later.cell v3
  clear b0 b1 b2 b3 x0 x1 x2 x3 y0 y1 y2 y3 z0 z1 z2 z3 v0 v1 v2 v3
  go_wp2_with fail
  refine wp_region_later follows_mixed (by kernel_rfl) ?_
  repeat (first | go_big_quiet_step ((first | (go_at_call 26; first | with_reducible exact hcs1.out _ | with_reducible exact hcs2.out _) | (go_at_call 41; exact hcb1.out _) | (go_at_call 42; exact hcb2.out _) | (go_at_call 43; exact hcf1.out _) | (go_at_call 44; exact hcf2.out _))) | quiet_step ((first | (go_at_call 26; first | with_reducible exact hcs1.out _ | with_reducible exact hcs2.out _) | (go_at_call 41; exact hcb1.out _) | (go_at_call 42; exact hcb2.out _) | (go_at_call 43; exact hcf1.out _) | (go_at_call 44; exact hcf2.out _))))
  refine wpQuiet_nil ?_
  intro w11 hw'
  have hb : Below w10.heap.size w10 w11 := by obtain ⟨p, e⟩ := hw'; rw [e]; exact p.h
  clear hw' hcs1 hcs2 hcb1 hcb2 hcf1 hcf2 lb0 lb1 lb2 lb3 lx0 lx1 lx2 lx3 ly0 ly1 ly2 ly3 lz0 lz1 lz2 lz3 lv0 lv1 lv2 lv3
  have B11 := Lib.hid (B10.out.trans (hb.mono B10.out.size))
  have Fb11 := Lib.hid (Fb10.out.later hb)
  have Fx11 := Lib.hid (Fx10.out.later hb)
  have Fy11 := Lib.hid (Fy10.out.later hb)
  have Fz11 := Lib.hid (Fz10.out.later hb)
  have Fv11 := Lib.hid (Fv10.out.later hb)
  have Xb11 := Lib.hid (bx_later Xb10.out hb)
  have Xx11 := Lib.hid (bx_later Xx10.out hb)
  have Xy11 := Lib.hid (bx_later Xy10.out hb)
  have Xz11 := Lib.hid (bx_later Xz10.out hb)
  have Xv11 := Lib.hid (bx_later Xv10.out hb)
  clear B10 Fb10 Fx10 Fy10 Fz10 Fv10 Xb10 Xx10 Xy10 Xz10 Xv10
  clear hb
  cases eb
  · obtain ⟨rfl, rfl⟩ := EN0.out rfl
    clear EN1
    obtain ⟨b0, b1, b2, b3, -, -, -, -⟩ := cells4 Xb11.out
    obtain ⟨x0, x1, x2, x3, -, -, -, -⟩ := cells4 Xx11.out
    obtain ⟨y0, y1, y2, y3, -, -, -, -⟩ := cells4 Xy11.out
    obtain ⟨z0, z1, z2, z3, -, -, -, -⟩ := cells4 Xz11.out
    obtain ⟨v0, v1, v2, v3, -, -, -, -⟩ := cells4 Xv11.out
    go_wp2_with fail
    refine (sameBelt_b L G H (by omega) Fx11.out Fb11.out).mono ?_
    rintro e w12 ⟨rfl, hb⟩
    go_wp2_with fail
    go_ret
    exact ⟨rfl, B11.out.trans (hb.mono B11.out.size)⟩
  obtain ⟨h1, h2, h3, h4, h5, h6⟩ := EN1.out rfl
  clear EN0 EN1
  have hw : IntKind.i64.wrap (y + 1) = y + 1 := IntWalk.i64_in _ (by omega)
  have ww : ∀ a : Int, 0 ≤ a → a ≤ 100 → (Lit.int .i64 a).wf = true := fun a h0 h1 => WalkArith.wf_i64 (by omega)
  have hd0 := Lib.hid (fun q9 : Later w11 => Calls.later_of (iBeltOk_b L G H (by omega) (Fx11.out.later q9.h)))
  have hd1 := Lib.hid (fun q9 : Later w11 => Calls.later_of (iCover_b L G H (by omega) (Fx11.out.later q9.h) 1 (ww 1 (by omega) (by omega))))
  have hd2 := Lib.hid (fun q9 : Later w11 => Calls.later_of (iCover_b L G H (by omega) (Fx11.out.later q9.h) y (ww y (by omega) (by omega))))
  have hd3 := Lib.hid (fun q9 : Later w11 => Calls.later_of (iCover_b L G H (by omega) (Fx11.out.later q9.h) (y + 1) (ww (y + 1) (by omega) (by omega))))
  have hd4 := Lib.hid (fun q9 : Later w11 => Calls.later_of (iCover_b L G H (by omega) (Fb11.out.later q9.h) (y + 1) (ww (y + 1) (by omega) (by omega))))
  have hd5 := Lib.hid (fun q9 : Later w11 => Calls.later_of (iCover_b L G H (by omega) (Fx11.out.later q9.h) 0 (ww 0 (by omega) (by omega))))
  rw [h1] at hd0
  rw [h3] at hd1
  rw [h4] at hd2
  rw [h5] at hd3
  rw [h6] at hd5
  obtain ⟨cv, hcv⟩ : ∃ cv, cv = cvB L G q z (y + 1) := ⟨_, rfl⟩
  rw [← hcv] at hd3 hd4
  clear h1 h2 h3 h4 h5 h6 hcv ww EQ
  have hx1 : (x == x) = true := by simp
  have hx2 : (cv == cv) = true := by simp
  obtain ⟨b0, b1, b2, b3, -, -, -, -⟩ := cells4 Xb11.out
  obtain ⟨x0, x1, x2, x3, -, -, -, -⟩ := cells4 Xx11.out
  obtain ⟨y0, y1, y2, y3, -, -, -, -⟩ := cells4 Xy11.out
  obtain ⟨z0, z1, z2, z3, -, -, -, -⟩ := cells4 Xz11.out
  obtain ⟨v0, v1, v2, v3, -, -, -, -⟩ := cells4 Xv11.out
  have lb0 := Later.cell b0
  have lb1 := Later.cell b1
  have lb2 := Later.cell b2
  have lb3 := Later.cell b3
  have lx0 := Later.cell x0
  have lx1 := Later.cell x1
  have lx2 := Later.cell x2
  have lx3 := Later.cell x3
  have ly0 := Later.cell y0
  have ly1 := Later.cell y1
  have ly2 := Later.cell y2
  have ly3 := Later.cell y3
  have lz0 := Later.cell z0
  have lz1 := Later.cell z1
  have lz2 := Later.cell z2
  have lz3 := Later.cell z3
  have lv0 := Later.cell v0
  have lv1 := Later.cell v1
  have lv2 := Later.cell v2
  have lv3 := Later.cell v3
  clear b0 b1 b2 b3 x0 x1 x2 x3 y0 y1 y2 y3 z0 z1 z2 z3 v0 v1 v2 v3
  go_wp2_with fail
  refine wp_region_later follows_mixed (by kernel_rfl) ?_
  repeat (first | go_big_quiet_step ((first | (go_at_call 28; exact hd0.out _) | (go_at_call 45; first | with_reducible exact hd1.out _ | with_reducible exact hd2.out _ | with_reducible exact hd3.out _ | with_reducible exact hd4.out _ | with_reducible exact hd5.out _))) | quiet_step ((first | (go_at_call 28; exact hd0.out _) | (go_at_call 45; first | with_reducible exact hd1.out _ | with_reducible exact hd2.out _ | with_reducible exact hd3.out _ | with_reducible exact hd4.out _ | with_reducible exact hd5.out _))))
  refine wpQuiet_nil ?_
  intro w12 hw'
  have hb : Below w11.heap.size w11 w12 := by obtain ⟨p, e⟩ := hw'; rw [e]; exact p.h
  clear hw'
  go_wp2_with fail
  go_ret
  exact ⟨rfl, B11.out.trans (hb.mono B11.out.size)⟩

/-! The row's step. -/
theorem own : ownKnob Try.prog.godebug = none := by kernel_rfl
theorem laidOut : laidOutB Try.prog = true := by kernel_rfl
set_option maxRecDepth 100000 in
theorem lifted (os : Os) (started : os.Started) (H : Type) (enc : TypeId × Value → H) :
    ReturnsInHanded {} Try.checked os 7 .any (Rows.fnBeltEntersSpec.pre6 enc Try.prog Try.f7 Rows.fnBeltEntersRow.domain false) (Rows.fnBeltEntersSpec.post enc Try.prog Try.f7 false true false false) := by
  refine returnsInHanded_of_change (C := Try.checked) own started (by kernel_rfl) Try.func7
    (ChangeSpec.witness6 (enc := enc) (C := Try.checked) false ⟨#[], #[.slice none 0 0], []⟩ 8 (by kernel_rfl) (by kernel_rfl) (by kernel_rfl) (by kernel_rfl)) ?_
  intro W base args ds gs before hval0 hW hcnd _
  have hval : ∀ (j : Nat) t v, Try.f7.params[j]? = some t → args[j]? = some v → Value.okWide Try.prog W .any base t v := hval0
  have hW' := hW
  obtain ⟨p, q, hA0, hV, rfl, hfz, hnd⟩ := hW
  have hA : DataW.TrodAll enc Try.prog W 0 (fun _ => true) true Try.f7.params.toList args.toList ds p := hA0
  rw [Try.params7] at hA hval
  obtain ⟨v0, vs0, d0, ds0, p0, q0, hargs, rfl, rfl, h0, r0⟩ := trodAll_cons hA
  obtain ⟨rfl, rfl, rfl⟩ := trodAll_nil r0
  obtain rfl : args = #[v0] := by cases args; simp_all
  obtain ⟨rfl, rfl⟩ := trodVars_none hV
  have k0 := h0
  have lt0 : ∀ x ∈ p0, x.block < W.heap.size := by obtain ⟨m, hm⟩ := k0; exact DataW.trod_lt m _ _ _ hm
  obtain ⟨sp0, ln0, cp0, rfl⟩ := okWide_slice Try.underlying49 (hval 0 49 v0 rfl rfl)
  obtain ⟨gc0, oc0, w0, cd0⟩ := code_open h0
  clear hA0 hval0
  refine (walk sp0 ln0 cp0 gc0 oc0 W w0 cd0).mono fun e W' ⟨he, bel⟩ => ?_
  subst he
  exact ⟨_, rfl, _, _, _, [], _, [], hW', trodAll_mk1 (shut_bool Try.underlying4 _), (trodAll_cons_mk (Below.trod laidOut (by kernel_rfl) (of_decide_eq_true (by kernel_rfl)) k0 bel lt0) trodAll_mk0), rfl, bel.frame _, fun h => by cases h⟩

theorem over : Rows.fnBeltEntersRow.holds Try.pinned (OpenSpec.ofChange Rows.fnBeltEntersSpec) :=
  OpenClaim.holds_of_wide 7 Try.f7 rfl rfl rfl rfl rfl rfl rfl ⟨rfl, rfl, rfl, rfl, rfl⟩ rfl rfl rfl rfl rfl (by kernel_rfl) Try.func7 (by kernel_rfl)
    (of_decide_eq_true (by kernel_rfl)) (by unfold Func.isWrapper; first | (rw [if_pos (by decide +kernel)]; kernel_rfl) | (rw [if_neg (by decide +kernel)]; exact ⟨rfl, rfl⟩))
    (fun os started H enc _ => lifted os started H enc)

/-- The statement. -/
theorem proved : Rows.FnBeltEntersSaid := over
#print axioms proved
end Go.Proofs.Ytobcgidakbbhpab.fnBeltEnters
