/- For every belt and every two numbers of steps the law FnBeltMoves returns true, and the arguments read as before. No condition. -/
import Derived.Test.YtopkdkehkdhmgabRows
import Derived.Test.YtopkdkehkdhmgabMoveI
import Derived.Test.YtopkdkehkdhmgabFree
import Derived.Test.YtopkdkehkdhmgabMoveFront
import Derived.Test.YtopkdkehkdhmgabSameBelt
import Derived.Test.YtopkdkehkdhmgabOpen
import Derived.Deep.RegionHeld3
import Derived.OpenShut
import Derived.ChangeOld
import Derived.Deep.CutBlock
import Derived.Outline
import Derived.Deep.DeepCutAuto
import Derived.Lib.SmallJoins
namespace Go.Proofs.Ytopkdkehkdhmgab.fnBeltMoves
open Go.ChangeShapes Go.WideShapes Go.ChangeAt Go.RowKit
set_option linter.unusedVariables false

theorem mvR_at {L G : Int} {n : Nat} {y : Nat → Int} (h : okB L G n y = true) (t : Nat) (ht : t ≤ 2000) : mvR L G n (t : Int) y = mvZ L G t y := by
  unfold mvR
  rw [if_pos ⟨h, inB_iff.2 ⟨by omega, by omega⟩⟩, Int.toNat_natCast]

set_option maxRecDepth 100000 in
set_option maxHeartbeats 8000000 in
theorem walk (L G : Int) (H : Bool) (p : Option Addr) (c g o n : Nat) (z : Nat → Int) (s m : Int) (w : World) (hnc : n ≤ c) (hcm : c ≤ maxLen) (h : FlatAt w 0 w.heap.size p g o (n * 3) (fun j => .int .i64 (z j))) (wL : (Lit.int .i64 L).wf = true) (wG : (Lit.int .i64 G).wf = true) (ws : (Lit.int .i64 s).wf = true) (wm : (Lit.int .i64 m).wf = true) :
    Calls Try.prog 3 #[.agg #[.int .i64 L, .int .i64 G, .bool H, .slice p n c], .int .i64 s, .int .i64 m] w fun e w' => e = .returned (.bool true) ∧ Below w.heap.size w w' := by
  have hbo := Lib.hid (fun W (hb : Below w.heap.size w W) => sBeltOk_any n (by omega) z p c g o L G H W ((h.below hb (Nat.le_refl _)).wide (Nat.zero_le _) hb.size))
  by_cases hall : okB L G n z = true ∧ 0 ≤ s ∧ s ≤ 2000 ∧ 0 ≤ m ∧ m ≤ 2000 - s
  rotate_left
  · rcases Bool.eq_false_or_eq_true (okB L G n z) with hk | hk
    · simp only [hk] at hbo
      rcases (show s < 0 ∨ (0 ≤ s ∧ 2000 < s) ∨ (0 ≤ s ∧ s ≤ 2000 ∧ m < 0) ∨ (0 ≤ s ∧ s ≤ 2000 ∧ 0 ≤ m ∧ 2000 - s < m) by
        have : ¬ (0 ≤ s ∧ s ≤ 2000 ∧ 0 ≤ m ∧ m ≤ 2000 - s) := fun hh => hall ⟨hk, hh⟩
        omega) with q | ⟨q0, q⟩ | ⟨q0, q1, q⟩ | ⟨q0, q1, q2, q⟩
      all_goals
        clear hall hk h
        go_enter Try.func3, Try.ntmps3
        go_wp2_with (go_at_call 11; refine (hbo.out _ (by repeat (first | exact Below.refl _ _ | refine Below.alloc ?_ (by simp <;> omega) _ | refine Below.setCell ?_ (by simp <;> omega) _ | refine Below.drew ?_))).mono ?_; rintro e w2 ⟨rfl, hb2⟩; have hw2 := below_via hb2 (B := w.heap.size) (w := w) (by repeat (first | exact Below.refl _ _ | refine Below.alloc ?_ (by simp <;> omega) _ | refine Below.setCell ?_ (by simp <;> omega) _ | refine Below.drew ?_)) (by simp <;> omega); have hx2 := (hb2.block w.heap.size (by simp <;> omega)).trans (heap_new _ _ _ rfl); obtain ⟨x0, x1, x2, x3, -, -, -, -⟩ := cells4 hx2; have hz2 : w.heap.size + 1 ≤ w2.heap.size := (by have := hb2.size; simpa using this); have hlt2 : w.heap.size < w2.heap.size := (by omega); have hne2 : w2.heap.size ≠ w.heap.size := (by omega); have HX2 := Lib.hid hx2; have HW2 := Lib.hid hw2; clear hx2 hb2 hw2)
        go_ret
        exact ⟨rfl, HW2.out⟩
    · simp only [hk] at hbo
      clear hall hk h
      go_enter Try.func3, Try.ntmps3
      go_wp2_with (go_at_call 11; refine (hbo.out _ (by repeat (first | exact Below.refl _ _ | refine Below.alloc ?_ (by simp <;> omega) _ | refine Below.setCell ?_ (by simp <;> omega) _ | refine Below.drew ?_))).mono ?_; rintro e w2 ⟨rfl, hb2⟩; have hw2 := below_via hb2 (B := w.heap.size) (w := w) (by repeat (first | exact Below.refl _ _ | refine Below.alloc ?_ (by simp <;> omega) _ | refine Below.setCell ?_ (by simp <;> omega) _ | refine Below.drew ?_)) (by simp <;> omega); have hx2 := (hb2.block w.heap.size (by simp <;> omega)).trans (heap_new _ _ _ rfl); obtain ⟨x0, x1, x2, x3, -, -, -, -⟩ := cells4 hx2; have hz2 : w.heap.size + 1 ≤ w2.heap.size := (by have := hb2.size; simpa using this); have hlt2 : w.heap.size < w2.heap.size := (by omega); have hne2 : w2.heap.size ≠ w.heap.size := (by omega); have HX2 := Lib.hid hx2; have HW2 := Lib.hid hw2; clear hx2 hb2 hw2)
      go_ret
      exact ⟨rfl, HW2.out⟩
  obtain ⟨hk, hs0, hs1, hm0, hm1⟩ := hall
  obtain ⟨a, rfl⟩ : ∃ a : Nat, s = (a : Int) := ⟨s.toNat, by omega⟩
  obtain ⟨b, rfl⟩ : ∃ b : Nat, m = (b : Int) := ⟨m.toNat, by omega⟩
  have HP : Hid (OkP L G n z) := okB_iff.1 hk
  have hn40 : n ≤ 40 := HP.out.2.2.1
  obtain ⟨zx, hzx⟩ : ∃ y, y = mvZ L G a z := ⟨_, rfl⟩
  have HPX : Hid (OkP L G n zx) := by rw [hzx]; exact HP.out.move a
  have hkx : okB L G n zx = true := okB_yes HPX.out
  have hsum : mvZ L G b zx = mvZ L G (a + b) z := by rw [hzx, mvZ_add]
  have e1 : mvR L G n (a : Int) z = zx := by rw [mvR_at hk a (by omega), hzx]
  have e2 : mvR L G n (b : Int) zx = mvZ L G (a + b) z := by rw [mvR_at hkx b (by omega), hsum]
  have e3 : mvR L G n ((a : Int) + (b : Int)) z = mvZ L G (a + b) z := by have := mvR_at hk (a + b) (by omega); rwa [Int.natCast_add] at this
  have e4 : mvR L G n 0 z = z := by have := mvR_at hk 0 (by omega); exact this
  have HF := Lib.hid h
  have hmv := Lib.hid (fun W (hb : Below w.heap.size w W) => iMove_any n (by omega) z p c g o L G H (a : Int) W ((HF.out.below hb (Nat.le_refl _)).wide (Nat.zero_le _) hb.size) hnc)
  have hmab := Lib.hid (fun W (hb : Below w.heap.size w W) => iMove_any n (by omega) z p c g o L G H ((a : Int) + (b : Int)) W ((HF.out.below hb (Nat.le_refl _)).wide (Nat.zero_le _) hb.size) hnc)
  have hm00 := Lib.hid (fun W (hb : Below w.heap.size w W) => iMove_any n (by omega) z p c g o L G H 0 W ((HF.out.below hb (Nat.le_refl _)).wide (Nat.zero_le _) hb.size) hnc)
  have hib := Lib.hid (fun W (hb : Below w.heap.size w W) => iBeltOk_any n (by omega) z p c g o L G H W ((HF.out.below hb (Nat.le_refl _)).wide (Nat.zero_le _) hb.size) hnc)
  have hix := Lib.hid (fun (W : World) (px : Option Addr) (cx gx ox : Nat) (hcx : n ≤ cx) (hx : FlatAt W 0 W.heap.size px gx ox (n * 3) (fun j => .int .i64 (zx j))) => iBeltOk_any n (by omega) zx px cx gx ox L G H W hx hcx)
  have hmx := Lib.hid (fun (W : World) (px : Option Addr) (cx gx ox : Nat) (hcx : n ≤ cx) (hx : FlatAt W 0 W.heap.size px gx ox (n * 3) (fun j => .int .i64 (zx j))) => iMove_any n (by omega) zx px cx gx ox L G H (b : Int) W hx hcx)
  have hfx := Lib.hid (fun (W : World) (px : Option Addr) (cx gx ox : Nat) (hcx : n ≤ cx) (hx : FlatAt W 0 W.heap.size px gx ox (n * 3) (fun j => .int .i64 (zx j))) => iFree_any n (by omega) zx px cx gx ox L G H W hx hcx)
  simp only [hk] at hbo hib
  simp only [hkx] at hix
  simp only [e1] at hmv
  simp only [e2] at hmx
  simp only [e3] at hmab
  simp only [e4] at hm00
  have hfr : frB L G n zx = max 0 (lim L G zx n) := by unfold frB; rw [if_pos hkx]
  rw [hfr] at hfx
  obtain ⟨zs, hzs⟩ : ∃ y, y = mvZ L G (a + b) z := ⟨_, rfl⟩
  rw [← hzs] at hmx hmab
  have HZX := Lib.hid hzx
  have ba : decide ((a : Int) < 0) = false := decide_eq_false (by omega)
  have bb : decide ((b : Int) < 0) = false := decide_eq_false (by omega)
  have ba2 : decide (2000 < (a : Int)) = false := decide_eq_false (by omega)
  have bb2 : decide (2000 - (a : Int) < (b : Int)) = false := decide_eq_false (by omega)
  have hwrap : IntKind.i64.wrap ((a : Int) + (b : Int)) = (a : Int) + (b : Int) := IntWalk.i64_in _ (by omega)
  clear h hk hkx hsum e1 e2 e3 e4 hfr hzs hzx
  go_enter Try.func3, Try.ntmps3
  go_wp2_with (first | (go_at_call 11; refine (hbo.out _ (by repeat (first | exact Below.refl _ _ | refine Below.alloc ?_ (by simp <;> omega) _ | refine Below.setCell ?_ (by simp <;> omega) _ | refine Below.drew ?_))).mono ?_; rintro e w2 ⟨rfl, hb2⟩; have hw2 := below_via hb2 (B := w.heap.size) (w := w) (by repeat (first | exact Below.refl _ _ | refine Below.alloc ?_ (by simp <;> omega) _ | refine Below.setCell ?_ (by simp <;> omega) _ | refine Below.drew ?_)) (by simp <;> omega); have hx2 := (hb2.block w.heap.size (by simp <;> omega)).trans (heap_new _ _ _ rfl); obtain ⟨x0, x1, x2, x3, -, -, -, -⟩ := cells4 hx2; have hz2 : w.heap.size + 1 ≤ w2.heap.size := (by have := hb2.size; simpa using this); have hlt2 : w.heap.size < w2.heap.size := (by omega); have hne2 : w2.heap.size ≠ w.heap.size := (by omega); have HX2 := Lib.hid hx2; have HW2 := Lib.hid hw2; clear hx2 hb2 hw2) | (go_at_call 12; refine (hmv.out _ HW2.out).mono ?_; rintro e w3 ⟨px, cx, rfl, hcx, hrx, hb3⟩; have hw3 : Below w.heap.size w w3 := HW2.out.trans (hb3.mono (by omega)); have hx3 := (hb3.block w.heap.size (by omega)).trans HX2.out; have hs3 := hb3.size; have HX3 := Lib.hid hx3; have HW3 := Lib.hid hw3; have HRX := Lib.hid hrx; clear hx3 hw3 hrx hb3 x0 x1 x2 x3))
  obtain ⟨gx, ox, r1, r2⟩ := HRX.out.row
  obtain ⟨wa, hwa⟩ : ∃ wa, wa = w3.alloc (.cells #[.int .i64 L, .int .i64 G, .bool H, .slice px n cx] 24) := ⟨_, rfl⟩
  have b34 : Below w3.heap.size w3 wa := by rw [hwa]; exact (Below.refl _ _).alloc (Nat.le_refl _) _
  have s34 : w3.heap.size < wa.heap.size := by rw [hwa]; simp
  have xb : wa.heap[w.heap.size]? = some (.cells #[.int .i64 L, .int .i64 G, .bool H, .slice p n c] 24 (0, 0)) := (b34.block _ (by omega)).trans HX3.out
  have xx : wa.heap[w3.heap.size]? = some (.cells #[.int .i64 L, .int .i64 G, .bool H, .slice px n cx] 24 (0, 0)) := by rw [hwa]; exact heap_new _ _ _ rfl
  rw [← hwa]
  have HWA : Hid (Below w.heap.size w wa) := HW3.out.trans (b34.mono (by omega))
  have RX : Hid (FlatAt wa 0 wa.heap.size px gx ox (n * 3) (fun j => .int .i64 (zx j))) := (r1.below b34 (Nat.le_refl _)).wide (Nat.zero_le _) (by omega)
  have XB := Lib.hid xb
  have XX := Lib.hid xx
  clear xb xx r1 r2 hwa b34 HRX
  have hS := Lib.hid (fun K (hK : Below wa.heap.size wa K) => (by
    obtain ⟨a0, a1, a2, a3, -, -, -, -⟩ := cells4 ((hK.block _ (by omega)).trans XB.out)
    obtain ⟨c0, c1, c2, c3, -, -, -, -⟩ := cells4 ((hK.block _ (by omega)).trans XX.out)
    exact ⟨a0, a1, a2, a3, c0, c1, c2, c3⟩ : K.cell? ⟨w.heap.size, 0, none⟩ = some (.int .i64 L) ∧ K.cell? ⟨w.heap.size, 1, none⟩ = some (.int .i64 G) ∧ K.cell? ⟨w.heap.size, 2, none⟩ = some (.bool H) ∧ K.cell? ⟨w.heap.size, 3, none⟩ = some (.slice p n c) ∧ K.cell? ⟨w3.heap.size, 0, none⟩ = some (.int .i64 L) ∧ K.cell? ⟨w3.heap.size, 1, none⟩ = some (.int .i64 G) ∧ K.cell? ⟨w3.heap.size, 2, none⟩ = some (.bool H) ∧ K.cell? ⟨w3.heap.size, 3, none⟩ = some (.slice px n cx)))
  have hrow := Lib.hid (fun K (hK : Below wa.heap.size wa K) => (RX.out.below hK (Nat.le_refl _)).wide (Nat.zero_le _) hK.size)
  have hfrom := Lib.hid (fun K (hK : Below wa.heap.size wa K) => HWA.out.trans (hK.mono HWA.out.size))
  have D0 : Below wa.heap.size wa wa := Below.refl _ _
  go_region_held3 (fun K => K.cell? ⟨w.heap.size, 0, none⟩ = some (.int .i64 L) ∧ K.cell? ⟨w.heap.size, 1, none⟩ = some (.int .i64 G) ∧ K.cell? ⟨w.heap.size, 2, none⟩ = some (.bool H) ∧ K.cell? ⟨w.heap.size, 3, none⟩ = some (.slice p n c) ∧ K.cell? ⟨w3.heap.size, 0, none⟩ = some (.int .i64 L) ∧ K.cell? ⟨w3.heap.size, 1, none⟩ = some (.int .i64 G) ∧ K.cell? ⟨w3.heap.size, 2, none⟩ = some (.bool H) ∧ K.cell? ⟨w3.heap.size, 3, none⟩ = some (.slice px n cx))
    (first | exact hS.out _ (by first | assumption | (refine Below.drew ?_; assumption)) | go_keep)
    (first
      | (go_at_call 13; ((with_reducible refine (hib.out _ (hfrom.out _ (by first | exact D0 | exact D0.drew))).mono ?_); rintro e k1 ⟨rfl, b1⟩; have D1 : Below wa.heap.size wa k1 := below_via b1 (by first | exact D0 | exact D0.drew) (by first | exact D0.size | (simp; exact D0.size))))
      | (go_at_call 13; ((with_reducible refine (hix.out _ px cx gx ox hcx (hrow.out _ (by first | exact D1 | exact D1.drew))).mono ?_); rintro e k2 ⟨rfl, b2⟩; have D2 : Below wa.heap.size wa k2 := below_via b2 (by first | exact D1 | exact D1.drew) (by first | exact D1.size | (simp; exact D1.size))))
      | (go_at_call 12; ((with_reducible refine (hmx.out _ px cx gx ox hcx (hrow.out _ (by first | exact D2 | exact D2.drew))).mono ?_); rintro e k3 ⟨p3, c3, rfl, hc3, r3, b3⟩; have D3 : Below wa.heap.size wa k3 := below_via b3 (by first | exact D2 | exact D2.drew) (by first | exact D2.size | (simp; exact D2.size)); obtain ⟨g3, o3, q3, -⟩ := r3.row; have Q3 := Lib.hid q3; clear r3 q3))
      | (go_at_call 12; ((with_reducible refine (hmab.out _ (hfrom.out _ (by first | exact D3 | exact D3.drew))).mono ?_); rintro e k4 ⟨p4, c4, rfl, hc4, r4, b4⟩; have D4 : Below wa.heap.size wa k4 := below_via b4 (by first | exact D3 | exact D3.drew) (by first | exact D3.size | (simp; exact D3.size)); obtain ⟨g4, o4, q4, -⟩ := r4.row; have Q4 := Lib.hid q4; have Q34 := Lib.hid (Q3.out.below b4 (by first | exact Nat.le_refl _ | simp)); clear r4 q4))
      | (go_at_call 14; ((with_reducible refine (sameBelt_any n (by omega) zs p3 p4 c3 c4 g3 o3 g4 o4 L G H _ (Q34.out.wide (Nat.zero_le _) (by have := b4.size; first | exact this | simpa using this)) (Q4.out.wide (Nat.zero_le _) (Nat.le_refl _))).mono ?_); rintro e k5 ⟨rfl, b5⟩; have D5 : Below wa.heap.size wa k5 := below_via b5 (by first | exact D4 | exact D4.drew) (by first | exact D4.size | (simp; exact D4.size))))
      | (go_at_call 12; ((with_reducible refine (hm00.out _ (hfrom.out _ (by first | exact D5 | exact D5.drew))).mono ?_); rintro e k6 ⟨p6, c6, rfl, hc6, r6, b6⟩; have D6 : Below wa.heap.size wa k6 := below_via b6 (by first | exact D5 | exact D5.drew) (by first | exact D5.size | (simp; exact D5.size)); obtain ⟨g6, o6, q6, -⟩ := r6.row; have Q6 := Lib.hid q6; clear r6 q6))
      | (go_at_call 14; ((with_reducible refine (sameBelt_any n (by omega) z p6 p c6 c g6 o6 g o L G H _ (Q6.out.wide (Nat.zero_le _) (Nat.le_refl _)) ((HF.out.below (hfrom.out _ (by first | exact D6 | exact D6.drew)) (Nat.le_refl _)).wide (Nat.zero_le _) (hfrom.out _ (by first | exact D6 | exact D6.drew)).size)).mono ?_); rintro e k7 ⟨rfl, b7⟩; have D7 : Below wa.heap.size wa k7 := below_via b7 (by first | exact D6 | exact D6.drew) (by first | exact D6.size | (simp; exact D6.size)))))
  have D7' : Below wa.heap.size wa k7 := D7
  clear D0 D1 D2 D3 D4 D5 D6 D7 Q3 Q4 Q34 Q6 b1 b2 b3 b4 b5 b6 b7 hwrap
  go_upto_block 0 with fail
  go_cut [8] (fun s8 wx => s8 = .int .i64 (lim L G zx n) ∧ Below wa.heap.size wa wx)
  case first =>
    go_wp2_with fail
    go_loopw [8, 9] (fun mo v wr => ∃ k : Nat, k ≤ n ∧ v = .int .i64 (k : Int) ∧ mo = .int .i64 (lim L G zx k) ∧ Below wa.heap.size wa wr) (fun _ v _ => n - (intOf v).toNat)
    case atStart => exact ⟨0, by omega, rfl, rfl, D7'⟩
    case round =>
      obtain ⟨k, hk, rfl, rfl, hW⟩ := hrel
      obtain ⟨a0, a1, a2, a3, c0, c1, c2, c3⟩ := hS.out _ hW
      have hml := lim_lo HPX.out (k := k) hk
      by_cases hkn : k < n
      · obtain ⟨rfl, -, hg⟩ := HF.out.1 (by omega)
        obtain ⟨rfl, -, hgx⟩ := RX.out.1 (by omega)
        obtain ⟨u0, u1, u2⟩ := HF.out.at3 (hfrom.out _ hW) (Nat.le_refl _) k (by omega)
        obtain ⟨v0, v1, v2⟩ := RX.out.at3 hW (Nat.le_refl _) k (by omega)
        have m0 : zx (k * 3) = z (k * 3) := by rw [HZX.out]; exact mvZ_bag a k
        have m2 : zx (k * 3 + 2) = z (k * 3 + 2) := by rw [HZX.out]; exact mvZ_len a k
        have m1 : zx (k * 3 + 1) = min (z (k * 3 + 1) + a) (lim L G zx k) := by have := mvZ_front HP.out hkn a; rw [← HZX.out] at this; exact this
        have ml : lim L G zx (k + 1) = zx (k * 3 + 1) - zx (k * 3 + 2) - G := rfl
        rw [m2] at ml
        rw [m0] at v0
        rw [m2] at v2
        obtain ⟨w1, w2', w3', w4, w5, w6⟩ := HP.out.front hkn
        have w7 : 0 ≤ z (k * 3 + 1) := by omega
        have hG := HP.out.2.1
        obtain ⟨hG0, hG1⟩ := hG
        obtain ⟨t0, ht0⟩ : ∃ x, x = z (k * 3) := ⟨_, rfl⟩
        obtain ⟨t1, ht1⟩ : ∃ x, x = z (k * 3 + 1) := ⟨_, rfl⟩
        obtain ⟨t2, ht2⟩ : ∃ x, x = z (k * 3 + 2) := ⟨_, rfl⟩
        obtain ⟨f, hf⟩ : ∃ x, x = zx (k * 3 + 1) := ⟨_, rfl⟩
        obtain ⟨mo, hmo⟩ : ∃ x, x = lim L G zx k := ⟨_, rfl⟩
        rw [← ht0] at u0 v0
        rw [← ht1] at u1 m1 w4 w5 w6 w7
        rw [← ht2] at u2 v2 ml w2' w3' w4
        rw [← hf] at v1 m1 ml
        rw [← hmo] at m1 hml ⊢
        obtain ⟨hm0', hm1'⟩ := hml
        have hk0 : (0 : Int) ≤ (k : Int) := by omega
        have hkl : (k : Int) < (n : Int) := by omega
        have HML := Lib.hid ml
        have HWW := Lib.hid hW
        have hf0 : -20 ≤ f ∧ f ≤ 2400 := by omega
        obtain ⟨hf1, hf2⟩ := hf0
        clear ml m0 m2 ht0 ht1 ht2 hf hmo hW w1
        rcases (show (t1 + a ≤ mo ∧ f = t1 + a) ∨ (mo < t1 + a ∧ f = mo) by omega) with ⟨q, rfl⟩ | ⟨q, rfl⟩
        all_goals
          clear m1
          go_wp2_with fail
          all_goals
            go_quiet (fail)
            go_wp2_with fail
            go_quiet (fail)
            go_wp2_with fail
            go_roundw
            case rel => exact ⟨k + 1, by omega, by congr 1, by rw [HML.out], below_drewN' HWW.out _⟩
            case measure => simp only [intOf]; omega
      · obtain rfl : k = n := by omega
        have HWW := Lib.hid hW
        clear hW
        go_wp2_with fail
        go_meet
        exact ⟨rfl, HWW.out⟩
  case rest =>
    obtain ⟨rfl, hW⟩ := hcut
    obtain ⟨a0, a1, a2, a3, c0, c1, c2, c3⟩ := hS.out _ hW
    have hml := lim_lo HPX.out (k := n) (Nat.le_refl _)
    have HWW := Lib.hid hW
    have hL := HP.out.1
    obtain ⟨hL0, hL1⟩ := hL
    have hlz : n = 0 → lim L G zx n = L := by rintro rfl; rfl
    obtain ⟨mo, hmo⟩ : ∃ x, x = lim L G zx n := ⟨_, rfl⟩
    rw [← hmo] at hml hfx hlz ⊢
    obtain ⟨hm0', hm1'⟩ := hml
    obtain ⟨mx, hmx, hd⟩ : ∃ mx, mx = max 0 mo ∧ ((mo < 0 ∧ mx = 0) ∨ (0 ≤ mo ∧ mx = mo)) := ⟨_, rfl, by omega⟩
    rw [← hmx] at hfx
    have hfz := Lib.hid (fun W (hW : Below wa.heap.size wa W) => hfx.out W px cx gx ox hcx (hrow.out _ hW))
    clear hmx hfx hmo hW
    rcases Nat.eq_zero_or_pos n with hk0 | hk0
    · have hq : mo = L := hlz hk0
      subst hq
      have hmxx : mx = mo := by omega
      subst hmxx
      have hkz : ((n : Int) == 0) = true := by rw [hk0]; rfl
      clear hlz hd hk0
      go_wp2_with (go_at_call 15; ((with_reducible refine (hfz.out _ (by first | exact HWW.out | exact HWW.out.drew | exact below_drewN' HWW.out _)).mono ?_); rintro e w8 ⟨rfl, b8⟩))
      all_goals
        go_ret
        refine ⟨?_, below_via b8 (by first | exact hfrom.out _ HWW.out | exact (hfrom.out _ HWW.out).drew) (by first | exact (hfrom.out _ HWW.out).size | (simp; exact (hfrom.out _ HWW.out).size))⟩
        first | rfl | (exfalso; omega) | (congr 2; first | rfl | (simp; omega) | omega) | (simp; omega)
    · have hkz : ((n : Int) == 0) = false := by simp; omega
      clear hlz
      rcases hd with ⟨hneg, rfl⟩ | ⟨hpos, rfl⟩
      all_goals
        go_wp2_with (go_at_call 15; ((with_reducible refine (hfz.out _ (by first | exact HWW.out | exact HWW.out.drew | exact below_drewN' HWW.out _)).mono ?_); rintro e w8 ⟨rfl, b8⟩))
        all_goals
          go_ret
          refine ⟨?_, below_via b8 (by first | exact hfrom.out _ HWW.out | exact (hfrom.out _ HWW.out).drew) (by first | exact (hfrom.out _ HWW.out).size | (simp; exact (hfrom.out _ HWW.out).size))⟩
          first | rfl | (exfalso; omega) | (congr 2; first | rfl | (simp; omega) | omega) | (simp; omega)

/-! The row's step. -/
theorem own : ownKnob Try.prog.godebug = none := by kernel_rfl
theorem laidOut : laidOutB Try.prog = true := by kernel_rfl
set_option maxRecDepth 100000 in
theorem lifted (os : Os) (started : os.Started) (H : Type) (enc : TypeId × Value → H) :
    ReturnsInHanded {} Try.checked os 3 .any (Rows.fnBeltMovesSpec.pre6 enc Try.prog Try.f3 Rows.fnBeltMovesRow.domain false) (Rows.fnBeltMovesSpec.post enc Try.prog Try.f3 false true false false) := by
  refine returnsInHanded_of_change (C := Try.checked) own started (by kernel_rfl) Try.func3
    (ChangeSpec.witness6 (enc := enc) (C := Try.checked) false ⟨#[], #[.agg #[.int .i64 0, .int .i64 0, .bool false, .slice none 0 0], .int .i64 0, .int .i64 0], []⟩ 8 (by kernel_rfl) (by kernel_rfl) (by kernel_rfl) (by kernel_rfl)) ?_
  intro W base args ds gs before hval0 hW hcnd _
  have hval : ∀ (j : Nat) t v, Try.f3.params[j]? = some t → args[j]? = some v → Value.okWide Try.prog W .any base t v := hval0
  have hW' := hW
  obtain ⟨p, q, hA0, hV, rfl, hfz, hnd⟩ := hW
  have hA : DataW.TrodAll enc Try.prog W 0 (fun _ => true) true Try.f3.params.toList args.toList ds p := hA0
  rw [Try.params3] at hA hval
  obtain ⟨v0, vs0, d0, ds0, p0, q0, hargs, rfl, rfl, h0, r0⟩ := trodAll_cons hA
  obtain ⟨v1, vs1, d1, ds1, p1, q1, rfl, rfl, rfl, h1, r1⟩ := trodAll_cons r0
  obtain ⟨v2, vs2, d2, ds2, p2, q2, rfl, rfl, rfl, h2, r2⟩ := trodAll_cons r1
  obtain ⟨rfl, rfl, rfl⟩ := trodAll_nil r2
  obtain rfl : args = #[v0, v1, v2] := by cases args; simp_all
  obtain ⟨rfl, rfl⟩ := trodVars_none hV
  have k0 := h0
  have lt0 : ∀ x ∈ p0, x.block < W.heap.size := by obtain ⟨m, hm⟩ := k0; exact DataW.trod_lt m _ _ _ hm
  obtain ⟨cL0, cG0, cH0, cS0, yL0, yG0, yH0, yS0, m0, rfl, -, -, hL0, hG0, hH0, hS0⟩ := Joins.open_agg4 Try.underlying24 (by kernel_rfl) (show Try.prog.cellsOf 24 = 4 by kernel_rfl) (hval 0 24 v0 rfl rfl) h0
  obtain ⟨L0, eL0, -, wL0⟩ := DataW.trod_int Try.underlying3 hL0
  obtain ⟨G0, eG0, -, wG0⟩ := DataW.trod_int Try.underlying3 hG0
  obtain ⟨H0, eH0, -⟩ := DataW.trod_bool Try.underlying4 hH0
  simp only [List.cons.injEq, and_true] at eL0 eG0 eH0
  subst eL0 eG0 eH0
  obtain ⟨ps0, n0, c0, rfl⟩ : ∃ ps n c, cS0 = .slice ps n c := by
    rcases Go.Deep.open_slice Try.underlying22 hS0 with ⟨e, -⟩ | ⟨a, l, c, _, _, _, _, e, -⟩
    · simp at e; exact ⟨_, _, _, e⟩
    · simp at e; exact ⟨_, _, _, e⟩
  obtain ⟨g0, o0, z0, nc0, cm0, fl0, -⟩ := open_rows Try.underlying22 Try.underlying29 (by kernel_rfl) (show Try.prog.cellsOf 29 = 3 by kernel_rfl) rfl (by decide) Try.underlying3 (by kernel_rfl) hS0
  have k1 := h1
  have lt1 : ∀ x ∈ p1, x.block < W.heap.size := by obtain ⟨m, hm⟩ := k1; exact DataW.trod_lt m _ _ _ hm
  obtain ⟨a1, rfl, -, -, w1⟩ := open_int Try.underlying3 (hval 1 3 v1 rfl rfl) h1
  have k2 := h2
  have lt2 : ∀ x ∈ p2, x.block < W.heap.size := by obtain ⟨m, hm⟩ := k2; exact DataW.trod_lt m _ _ _ hm
  obtain ⟨a2, rfl, -, -, w2⟩ := open_int Try.underlying3 (hval 2 3 v2 rfl rfl) h2
  clear hA0 hval0
  refine (walk L0 G0 H0 ps0 c0 g0 o0 n0 z0 a1 a2 W nc0 cm0 fl0 wL0 wG0 w1 w2).mono fun e W' ⟨he, bel⟩ => ?_
  subst he
  exact ⟨_, rfl, _, _, _, [], _, [], hW', trodAll_mk1 (shut_bool Try.underlying4 _), (trodAll_cons_mk (Below.trod laidOut (by kernel_rfl) (of_decide_eq_true (by kernel_rfl)) k0 bel lt0) (trodAll_cons_mk (Below.trod laidOut (by kernel_rfl) (of_decide_eq_true (by kernel_rfl)) k1 bel lt1) (trodAll_cons_mk (Below.trod laidOut (by kernel_rfl) (of_decide_eq_true (by kernel_rfl)) k2 bel lt2) trodAll_mk0))), rfl, bel.frame _, fun h => by cases h⟩

theorem over : Rows.fnBeltMovesRow.holds Try.pinned (OpenSpec.ofChange Rows.fnBeltMovesSpec) :=
  OpenClaim.holds_of_wide 3 Try.f3 rfl rfl rfl rfl rfl rfl rfl ⟨rfl, rfl, rfl, rfl, rfl⟩ rfl rfl rfl rfl rfl (by kernel_rfl) Try.func3 (by kernel_rfl)
    (of_decide_eq_true (by kernel_rfl)) (by unfold Func.isWrapper; first | (rw [if_pos (by decide +kernel)]; kernel_rfl) | (rw [if_neg (by decide +kernel)]; exact ⟨rfl, rfl⟩))
    (fun os started H enc _ => lifted os started H enc)

/-- The statement. -/
theorem proved : Rows.FnBeltMovesSaid := over
#print axioms proved
end Go.Proofs.Ytopkdkehkdhmgab.fnBeltMoves
